import Derived.Test.YtahiajeggbpogaaGreatDoorMTx
import Derived.Test.YtahiajeggbpogaaGreatDoorMTb
namespace Go.Proofs.YtahiajeggbpogaaGreatDoor.Up
open Go.RowKit Px Tx Tb
set_option linter.unusedVariables false
set_option linter.unusedSimpArgs false
def st(l:List UInt8):ByteArray:=⟨l.toArray⟩
theorem st_size(l:List UInt8):(st l).size=l.length:=by simp[st,ByteArray.size]
theorem scan_app : ∀(ys b:List UInt8) (n j N u:Nat),scan n j ys=(0,N,u)→scan n j (ys++b)=(0,N,u)
 | [],b,n,j,N,u,h=>by simp[scan] at h
 | y::ys,b,n,j,N,u,h=>by
  rw[List.cons_append]
  unfold scan at h ⊢
  by_cases g:5≤j∨2 ^ 31≤n+y.toNat % 128*2 ^ (7*j)
  ·rw[if_pos g] at h;simp at h
  ·rw[if_neg g] at h ⊢
   by_cases g2:y.toNat<128
   ·rw[if_pos g2] at h ⊢;exact h
   ·rw[if_neg g2] at h ⊢
    exact scan_app ys b _ _ N u h
theorem takeN_app{xs b:List UInt8}{k N u:Nat}(h:takeN xs k=(0,N,u)):takeN (xs++b) k=(0,N,u):=by
 cases xs with
 | nil=>simp[takeN] at h
 | cons x ys=>
  rw[List.cons_append]
  unfold takeN at h ⊢
  simp only at h ⊢
  by_cases g:x.toNat % 2 ^ k<mx k
  ·rw[if_pos g] at h ⊢;exact h
  ·rw[if_neg g] at h ⊢
   by_cases g2:(scan (mx k) 0 ys).1=0
   ·rw[if_pos g2] at h
    simp only[Prod.mk.injEq,true_and] at h
    obtain⟨h1,h2⟩:=h
    have e:scan (mx k) 0 ys=(0,N,u-1):=Prod.ext g2 (Prod.ext h1 (show(scan (mx k) 0 ys).2.2=u-1 by omega))
    rw[scan_app ys b _ 0 N (u-1) e]
    rw[if_pos rfl]
    simp only[Prod.mk.injEq,true_and]
    omega
   ·rw[if_neg g2] at h
    simp only[Prod.mk.injEq] at h
    omega
def nC(ls:List UInt8)(k:Nat):Nat:=(takeN ls k).1
def nV(ls:List UInt8)(k:Nat):Nat:=(takeN ls k).2.1
def nU(ls:List UInt8)(k:Nat):Nat:=if nC ls k=0 then (takeN ls k).2.2 else min 7 ls.length
def nR(ls:List UInt8)(k:Nat):List UInt8:=ls.drop (nU ls k)
theorem n_yes{ls:List UInt8}{k:Nat}(h:nC ls k=0):takeN ls k=(0,nV ls k,nU ls k):=by
 unfold nU
 rw[if_pos h]
 unfold nC at h
 unfold nV
 rw[←h]
theorem n_bd{ls:List UInt8}{k:Nat}(hk:k≤8)(h:nC ls k=0):nV ls k<2 ^ 31∧1≤nU ls k∧nU ls k≤6∧nU ls k≤ls.length:=by
 have:=take_only hk (n_yes h)
 omega
theorem n_app{ls b:List UInt8}{k:Nat}(hk:k≤8)(h:nC ls k=0):nC (ls++b) k=0∧nV (ls++b) k=nV ls k∧nR (ls++b) k=nR ls k++b:=by
 have h1:=takeN_app (b:=b) (n_yes h)
 have h2:=n_bd hk h
 have e1:nC (ls++b) k=0:=by unfold nC;rw[h1]
 have e2:nU (ls++b) k=nU ls k:=by
  have:=n_yes e1
  rw[h1] at this
  simp only[Prod.mk.injEq,true_and] at this
  omega
 refine⟨e1,by unfold nV at *;rw[h1],?_⟩
 unfold nR
 rw[e2,List.drop_append_of_le_length h2.2.2.2]
def tU(ls:List UInt8):Nat:=min ((takeN ls 7).2.2+nT ls) ls.length
def tRs(ls:List UInt8):List UInt8:=if cT ls=0 then ls.drop (tU ls) else ls
theorem r_n{ls:List UInt8}(h:cT ls=0):rT ls=nR ls 7:=by
 rw[rT_eq,if_pos h]
 unfold nR nU
 rw[if_pos (show nC ls 7=0 from h)]
theorem t_ok_parts{ls:List UInt8}(h:tE ls=0):cT ls=0∧nT ls≤(rT ls).length:=by
 unfold tE at h
 by_cases h1:cT ls≠0
 ·rw[if_pos h1] at h;omega
 ·rw[if_neg h1] at h
  by_cases h2:(rT ls).length<nT ls
  ·rw[if_pos h2] at h;omega
  ·omega
theorem tR_eq{ls:List UInt8}(h:tE ls=0):tR ls=tRs ls:=by
 obtain⟨h1,h2⟩:=t_ok_parts h
 have h3:=n_bd (k:=7) (by omega) (show nC ls 7=0 from h1)
 have h4:=n_yes (show nC ls 7=0 from h1)
 have hl:(rT ls).length=ls.length-nU ls 7:=by rw[r_n h1];unfold nR;rw[List.length_drop]
 unfold tR tRs tU
 rw[if_neg (by omega),if_pos h1,r_n h1,h4]
 unfold nR
 rw[List.drop_drop]
 congr 1
 simp only
 omega
theorem t_app{ls b:List UInt8}(h:tE ls=0):tE (ls++b)=0∧tS (ls++b)=tS ls∧tRs (ls++b)=tRs ls++b:=by
 obtain⟨h1,h2⟩:=t_ok_parts h
 have h3:=n_bd (k:=7) (by omega) (show nC ls 7=0 from h1)
 obtain⟨a1,a2,a3⟩:=n_app (b:=b) (k:=7) (by omega) (show nC ls 7=0 from h1)
 have r1:rT (ls++b)=rT ls++b:=by rw[r_n (show cT (ls++b)=0 from a1),r_n h1,a3]
 have w1:wT (ls++b)=wT ls:=by
  cases ls with
  | nil=>exact absurd h1 (by decide)
  | cons x ys=>rfl
 have n1:nT (ls++b)=nT ls:=a2
 have t1:(rT (ls++b)).take (nT ls)=(rT ls).take (nT ls):=by rw[r1,List.take_append_of_le_length h2]
 have e1:tE (ls++b)=0:=by
  rw[←h]
  unfold tE
  rw[show cT (ls++b)=cT ls from by rw[h1];exact a1,n1,t1,w1]
  rw[if_neg (by rw[r1,List.length_append];omega : ¬(rT (ls++b)).length<nT ls),if_neg (by omega : ¬(rT ls).length<nT ls)]
 refine⟨e1,?_,?_⟩
 ·unfold tS
  rw[e1,h,n1,t1,w1]
 ·rw[←tR_eq e1,←tR_eq h]
  unfold tR
  rw[e1,h,if_neg (by omega),if_neg (by omega),n1,r1,List.drop_append_of_le_length h2]
theorem t_le(ls:List UInt8):(tRs ls).length≤ls.length:=by
 unfold tRs
 split
 ·rw[List.length_drop];omega
 ·exact Nat.le_refl _
theorem n_less{ls:List UInt8}{k:Nat}(hk:k≤8)(h:nC ls k=0):(nR ls k).length<ls.length:=by
 have:=n_bd hk h
 unfold nR
 rw[List.length_drop]
 omega
end Go.Proofs.YtahiajeggbpogaaGreatDoor.Up
namespace Go.Proofs.YtahiajeggbpogaaGreatDoor.Up
open Go.RowKit Px Tx Tb
structure Sta where
 M:Int
 xs:List Fd
 ls:List UInt8
def hd(ls:List UInt8):UInt8:=ls.headD 0
def kb(x:UInt8):Nat:=if 128≤x.toNat then 7 else if 64≤x.toNat then 6 else if 32≤x.toNat then 5 else 4
def kk(x:UInt8):Nat:=if 128≤x.toNat then 1 else if 64≤x.toNat then 2 else if 32≤x.toNat then 3 else 4
theorem kb_bd(x:UInt8):4≤kb x∧kb x≤7:=by unfold kb;split<;>(try split)<;>(try split)<;>omega
def lk(a b:Nat):Nat:=if b=1 then (if a=1 then 1 else if a=2 then 2 else if a=3 then 3 else if a=4 then 4 else 0) else if a=4∧b=0 then 4 else 0
def owE(xs:List Fd)(ls:List UInt8)(i:Nat):Int:=if i=0 then (if tE ls=0 then tE (tRs ls) else tE ls) else if atE xs i=0 then tE ls else atE xs i
def owF(xs:List Fd)(ls:List UInt8)(i:Nat):Fd:=if i=0 then (st (tS ls),if tE ls=0 then st (tS (tRs ls)) else st []) else if atE xs i=0 then ((atV xs i).1,st (tS ls)) else atV xs i
def owR(xs:List Fd)(ls:List UInt8)(i:Nat):List UInt8:=if i=0 then (if tE ls=0 then tRs (tRs ls) else tRs ls) else if atE xs i=0 then tRs ls else ls
theorem bl_ge(b:List UInt8):5*b.length≤(Hf.bl b).length:=by
 induction b with
 | nil=>simp
 | cons c b ih=>have:=Hf.mny_bd c;rw[Hf.bl_cons,List.length_append,Hf.cbits_length,List.length_cons];omega
theorem takeL_len(d:List UInt8):5*(Hf.takeL d).length≤8*d.length:=by
 rcases Hf.takeE_or d with h | ⟨_,h⟩
 ·have h1:=(Hf.put_take h).1
  have h2:=bl_ge (Hf.takeL d)
  omega
 ·rw[h];simp
theorem tS_len(ls:List UInt8):5*(tS ls).length≤8*ls.length:=by
 have hr:(rT ls).length≤ls.length:=by
  rw[rT_eq]
  split
  ·rw[List.length_drop];omega
  ·simp
 have ht:((rT ls).take (nT ls)).length≤ls.length:=by rw[List.length_take];omega
 unfold tS
 split
 ·simp
 ·split
  ·have:=takeL_len ((rT ls).take (nT ls));omega
  ·omega
theorem atV_sz(xs:List Fd)(i:Int):sz (atV xs i)≤full xs+100:=by
 unfold atV atO
 split
 ·by_cases h:(i-1).toNat<20
  ·rw[List.getElem?_append_left (by rw[stat_len];exact h)]
   have hs : ∀k:Fin 20,sz ((stat[k.val]?).getD fd0)≤100:=by decide +kernel
   have:=hs ⟨_,h⟩
   simp only at this
   omega
  ·rw[List.getElem?_append_right (by rw[stat_len];omega)]
   cases hx:xs[(i-1).toNat-stat.length]? with
   | none=>simp[sz,fd0,ByteArray.size]
   | some x=>have:=sz_le hx;simp only[Option.getD_some];omega
 ·simp[sz,fd0,ByteArray.size]
theorem own_sz(xs:List Fd)(ls:List UInt8)(v:Nat)(hX:full xs≤20000)(hl:ls.length≤10000):sz (owF xs ls v)≤100000:=by
 have h1:=tS_len ls
 have h2:=tS_len (tRs ls)
 have h3:=t_le ls
 have h4:=atV_sz xs v
 unfold owF
 split
 ·split
  ·simp only[sz,st_size];omega
  ·simp only[sz,st_size,List.length_nil];omega
 ·split
  ·simp only[sz,st_size] at h4 ⊢;omega
  ·omega
def qC(s:Sta):Nat:=nC s.ls (kb (hd s.ls))
def qV(s:Sta):Nat:=nV s.ls (kb (hd s.ls))
def qR(s:Sta):List UInt8:=nR s.ls (kb (hd s.ls))
def qE(s:Sta):Int:=
 if qC s≠0 then (qC s:Int) else if kk (hd s.ls)=1 then atE s.xs (qV s) else if kk (hd s.ls)=3 then 100 else
 if owE s.xs (qR s) (qV s)=0∧kk (hd s.ls)=2 then addE s.M s.xs else owE s.xs (qR s) (qV s)
def qF(s:Sta):Fd:=
 if qC s≠0 then fd0 else if kk (hd s.ls)=1 then atV s.xs (qV s) else if kk (hd s.ls)=3 then fd0 else owF s.xs (qR s) (qV s)
def qS(s:Sta):Sta:=
 if qC s≠0 then ⟨s.M,s.xs,qR s⟩ else if kk (hd s.ls)=1 then ⟨s.M,s.xs,qR s⟩ else if kk (hd s.ls)=3 then ⟨s.M,s.xs,qR s⟩ else
 if owE s.xs (qR s) (qV s)=0∧kk (hd s.ls)=2 then ⟨addM s.M s.xs,addL s.M s.xs (owF s.xs (qR s) (qV s)),owR s.xs (qR s) (qV s)⟩ else ⟨s.M,s.xs,owR s.xs (qR s) (qV s)⟩
def zE(most:Int)(s:Sta):Int:=if qC s≠0 then (qC s:Int) else if most<(qV s:Int) then 100 else resE s.M s.xs (qV s)
def zS(most:Int)(s:Sta):Sta:=if qC s≠0 then ⟨s.M,s.xs,qR s⟩ else if most<(qV s:Int) then ⟨s.M,s.xs,qR s⟩ else ⟨resM s.M s.xs (qV s),resL s.M s.xs (qV s),qR s⟩
def zs(most:Int):Nat→Sta→Int×Sta
 | 0,s=>(0,s)
 | k+1,s=>if s.ls=[]∨kk (hd s.ls)≠3 then (0,s) else if zE most s≠0 then (zE most s,zS most s) else zs most k (zS most s)
def rn:Nat→Sta→Int×List Fd×Sta
 | 0,s=>(0,[],s)
 | k+1,s=>if s.ls=[] then (0,[],s) else if qE s≠0 then (qE s,[],qS s) else ((rn k (qS s)).1,qF s::(rn k (qS s)).2.1,(rn k (qS s)).2.2)
def bZ(most:Int)(s:Sta):Int×Sta:=zs most s.ls.length s
def bN(most:Int)(s:Sta):Int×List Fd×Sta:=rn s.ls.length (bZ most s).2
def okA(M most:Int)(xs:List Fd):Bool:=rightB M xs&&okB most
def bE(M most:Int)(xs:List Fd)(ls:List UInt8):Int:=if okA M most xs=false then 2 else if (bZ most ⟨M,xs,ls⟩).1≠0 then (bZ most ⟨M,xs,ls⟩).1 else (bN most ⟨M,xs,ls⟩).1
def bAll(M most:Int)(xs:List Fd)(ls:List UInt8):List Fd:=(bN most ⟨M,xs,ls⟩).2.1
def bL(M most:Int)(xs:List Fd)(ls:List UInt8):List Fd:=if bE M most xs ls=0 then keep 2000 (bAll M most xs ls) else []
def bG(M most:Int)(xs:List Fd)(ls:List UInt8):Bool:=decide (bE M most xs ls=0)&&decide (2000<full (bAll M most xs ls))
def bM(M most:Int)(xs:List Fd)(ls:List UInt8):Int:=if bE M most xs ls=0 then (bN most ⟨M,xs,ls⟩).2.2.M else 0
def bX(M most:Int)(xs:List Fd)(ls:List UInt8):List Fd:=if bE M most xs ls=0 then (bN most ⟨M,xs,ls⟩).2.2.xs else []
end Go.Proofs.YtahiajeggbpogaaGreatDoor.Up
