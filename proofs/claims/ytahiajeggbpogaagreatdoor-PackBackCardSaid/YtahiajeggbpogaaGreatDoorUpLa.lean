import Derived.Test.YtahiajeggbpogaaGreatDoorUpYc
import Derived.Test.YtahiajeggbpogaaGreatDoorUpR
import Derived.Test.YtahiajeggbpogaaGreatDoorUpY
import Derived.Test.YtahiajeggbpogaaGreatDoorUpZ
namespace Go.Proofs.YtahiajeggbpogaaGreatDoor.Up
open Go.RowKit Px Tx Tb
set_option linter.unusedVariables false
set_option linter.unusedSimpArgs false
theorem may_of{n k:Nat}(hk:1≤k∧k≤8)(hn:n<2 ^ 31):MayN (n:Int) (k:Int):=⟨⟨by omega,by omega⟩,by omega,by omega⟩
theorem putL_of{n k u:Nat}(hk:1≤k∧k≤8)(hn:n<2 ^ 31):putL (n:Int) (k:Int) u=putN n k u:=putL_yes (may_of hk hn)
theorem putE_of{n k:Nat}(hk:1≤k∧k≤8)(hn:n<2 ^ 31):putE (n:Int) (k:Int)=0:=putE_yes (may_of hk hn)
theorem bN_late{M most:Int}{xs:List Fd}{ls:List UInt8}(hr:rightB M xs=true)(h0:0≤most)(h1:most≤4096)(hk:kk (hd ls)≠3)(hl:ls≠[])(he:qE ⟨M,xs,ls⟩≠0):bE M most xs ls=qE ⟨M,xs,ls⟩:=by
 have hz:=bZ_none (M:=M) (most:=most) (xs:=xs) hk
 have hn:bN most ⟨M,xs,ls⟩=(qE ⟨M,xs,ls⟩,[],qS ⟨M,xs,ls⟩):=by
  unfold bN
  rw[hz]
  exact rn_bad 0 _ _ (Nat.le_refl _) (fun j hj=>absurd hj (by omega)) hl he
 unfold bE
 rw[if_neg (by rw[okA_of hr h0 h1];exact Bool.noConfusion),hz,if_neg (by simp),hn]
theorem block_idx{M most:Int}{xs:List Fd}{i:Nat}(hi:i<2 ^ 31)(hr:rightB M xs=true)(h0:0≤most)(h1:most≤4096) :
  bE M most xs (putN i 7 128)=atE xs i∧(atE xs i=0→bAll M most xs (putN i 7 128)=[atV xs i]∧bM M most xs (putN i 7 128)=M∧bX M most xs (putN i 7 128)=xs):=by
 obtain⟨m1,m2⟩:=mark_1 i []
 obtain⟨n1,n2,n3⟩:=num_back (n:=i) (k:=7) (u:=128) (by omega) (by omega) hi []
 rw[List.append_nil] at m1 m2 n1 n2 n3
 have e1:qC ⟨M,xs,putN i 7 128⟩=0:=by unfold qC;simp only[m2,n1]
 have e2:qV ⟨M,xs,putN i 7 128⟩=i:=by unfold qV;simp only[m2,n2]
 have e3:qR ⟨M,xs,putN i 7 128⟩=[]:=by unfold qR;simp only[m2,n3]
 have q1:qE ⟨M,xs,putN i 7 128⟩=atE xs i:=by unfold qE;rw[e1,e2];simp[m1]
 have q2:qF ⟨M,xs,putN i 7 128⟩=atV xs i:=by unfold qF;rw[e1,e2];simp[m1]
 have q3:qS ⟨M,xs,putN i 7 128⟩=⟨M,xs,[]⟩:=by unfold qS;rw[e1,e3];simp[m1]
 have hl:putN i 7 128≠[]:=by have:=put_ne i 7 128 [];rwa [List.append_nil] at this
 have hk:kk (hd (putN i 7 128))≠3:=by rw[m1];decide
 by_cases h:atE xs i=0
 ·obtain⟨b1,b2,b3,b4⟩:=block_one (most:=most) hr h0 h1 hk hl (q1.trans h) (by rw[q3])
  rw[q2] at b2
  rw[q3] at b3 b4
  exact⟨b1.trans h.symm,fun _=>⟨b2,b3,b4⟩⟩
 ·exact⟨(bN_late hr h0 h1 hk hl (by rw[q1];exact h)).trans q1,fun h'=>absurd h' h⟩
theorem block_fld{M most:Int}{xs:List Fd}{a b:List UInt8}(way:Int)(hr:rightB M xs=true)(h0:0≤most)(h1:most≤4096)(ha:a.length≤100000)(hb:b.length≤100000) :
  bE M most xs (fldL a b way)=0∧bAll M most xs (fldL a b way)=[(st a,st b)]∧bM M most xs (fldL a b way)=M∧bX M most xs (fldL a b way)=(if way=1 then addL M xs (st a,st b) else xs):=by
 obtain⟨hw1,hw2,hw3⟩:=way_bd way
 obtain⟨q1,q2,q3⟩:=fld_one (M:=M) (xs:=xs) (ys:=[]) way ha hb
 rw[List.append_nil] at q1 q2 q3
 have hl:fldL a b way=putN 0 (wR way) (wU way)++(beB a++beB b):=by
  unfold fldL
  rw[show putL 0 (wR way) (wU way)=putN 0 (wR way) (wU way) from putL_of (n:=0) ⟨hw3,hw1⟩ (by omega),List.append_assoc]
 have hne:fldL a b way≠[]:=by rw[hl];exact put_ne _ _ _ _
 have hk:kk (hd (fldL a b way))≠3:=by rw[hl,(way_mark way 0 _).1];split<;>decide
 have hq:qE ⟨M,xs,fldL a b way⟩=0:=by
  rw[q1]
  split
  ·unfold addE;rw[hr];rfl
  ·rfl
 obtain⟨b1,b2,b3,b4⟩:=block_one (most:=most) hr h0 h1 hk hne hq (by rw[q3];split<;>rfl)
 rw[q2] at b2
 rw[q3] at b3 b4
 refine⟨b1,b2,b3.trans ?_,b4.trans ?_⟩
 ·split
  ·unfold addM;rw[hr];rfl
  ·rfl
 ·split<;>rfl
theorem bG_of{M most:Int}{xs:List Fd}{ls:List UInt8}{L:List Fd}(h:bE M most xs ls=0)(hL:bAll M most xs ls=L):bL M most xs ls=keep 2000 L∧bG M most xs ls=decide (2000<full L):=by
 unfold bL bG
 rw[if_pos h,hL,decide_eq_true h,Bool.true_and]
 exact⟨rfl,rfl⟩
end Go.Proofs.YtahiajeggbpogaaGreatDoor.Up
namespace Go.Proofs.YtahiajeggbpogaaGreatDoor
open Go.RowKit Go.Shelf Px Tx Tb Up
set_option linter.unusedVariables false
set_option linter.unusedSimpArgs false
namespace Up
def BBox(B:Nat)(v:Value)(L:List UInt8)(lb:List Bx):Prop:=
 (v = .slice none 0 0∧L=[]∧lb=[])∨∃g cap cur,v = .slice (some ⟨g,0,none⟩) L.length cap∧lb=[(g,cur,5)]∧B≤g∧∀w:World,w.heap[g]? = some (.cells cur 5)→OwnB w B 5 v L
theorem BBox.own{W:World}{B:Nat}{v:Value}{L:List UInt8}{lb:List Bx}{fs:List Fact}{gs:List Bx}(h:BBox B v L lb)(hE:EnvF W fs gs)(hs : ∀y∈lb,y∈gs):OwnB W B 5 v L:=by
 rcases h with ⟨rfl,rfl,rfl⟩ | ⟨g,cap,cur,rfl,rfl,hB,h⟩
 ·exact OwnB.nil_ _ _ _
 ·exact h W (hE.g _ (hs _ (List.mem_singleton_self _)))
theorem BBox.block{B:Nat}{v:Value}{L:List UInt8}{lb:List Bx}(h:BBox B v L lb){r:Nat}(hr:v.ownBlock=some r) : ∃cs t,lb=[(r,cs,t)]:=by
 rcases h with ⟨rfl,rfl,rfl⟩ | ⟨g,cap,cur,rfl,rfl,hB,h⟩
 ·cases hr
 ·have e:some g=some r:=hr
  cases e
  exact⟨_,_,rfl⟩
theorem BBox.form{B:Nat}{v:Value}{L:List UInt8}{lb:List Bx}{W:World}{fs:List Fact}{gs:List Bx}(h:BBox B v L lb)(hE:EnvF W fs (gs++lb)) : ∃A c,v = .slice A L.length c∧L.length≤c∧(A=none→c=0):=by
 obtain⟨A,c,e,hh⟩:=(h.own hE (fun y hy=>List.mem_append_right _ hy)).handS (n:=L.length) rfl
 exact⟨A,c,e,hh.2.2⟩
theorem BBox.form2{B:Nat}{v:Value}{L:List UInt8}{lb:List Bx}{W:World}{fs:List Fact}{gs:List Bx}(h:BBox B v L lb)(hE:EnvF W fs (gs++lb)) : ∃A n c,v = .slice A n c∧L.length=n∧n≤c∧(A=none→c=0):=by
 obtain⟨A,c,e,h1,h2⟩:=h.form hE
 exact⟨A,_,c,e,rfl,h1,h2⟩
structure BK (M most:Int) (xs:List Fd) (ls:List UInt8) (E:Int) (nl:Nat) (L:List Fd) (G:Bool) (N:Int) (nt:Nat) (X:List Fd):Prop where
 e:bE M most xs ls=E
 l:bL M most xs ls=L
 g:bG M most xs ls=G
 m:bM M most xs ls=N
 x:bX M most xs ls=X
 nl:L.length=nl
 nt:X.length=nt
end Up
end Go.Proofs.YtahiajeggbpogaaGreatDoor
namespace Go.Proofs.YtahiajeggbpogaaGreatDoor.Up
open Go.RowKit Px Tx Tb
abbrev ga:Fd:=(⟨#[97]⟩,⟨#[49]⟩)
end Go.Proofs.YtahiajeggbpogaaGreatDoor.Up
namespace Go.Proofs.YtahiajeggbpogaaGreatDoor
open Go.RowKit Go.Shelf Px Tx Tb Up
set_option linter.unusedVariables false
set_option linter.unusedSimpArgs false
section
variable {fs:List Fact}{gs:List Bx}{A:Option Addr}{n c:Nat}{xs:List Fd}{M:Int}
theorem l_resize{m N E:Int}{k:Nat}{L:List Fd}(w:World)(hV:EnvF w fs gs)(hA:fF A n xs∈fs)(hN:A=none→c=0)(hF:full xs≤100000)(h1:resM M xs m=N)(h2:resE M xs m=E)(h3:resL M xs m=L)(h4:L.length=k) :
  Calls Tryz.prog 43 #[.agg #[.int .i64 M,.slice A n c],.int .i64 m] w fun e w'=>∃A3 c3,e = .returned (.tuple #[.agg #[.int .i64 N,.slice A3 k c3],.int .i64 E])∧Below w.heap.size w w'∧EnvF w' (fF A3 k L::fs) gs∧(A3=none→c3=0):=by
 subst h1 h2 h3 h4
 refine(r_resize M A n c xs m w (hV.fs hA) hN hF).mono ?_
 rintro e w' ⟨v,rfl,ho,hb⟩
 obtain⟨A3,c3,rfl,_,h5,_⟩:=ho.form2 (n:=(resL M xs m).length) rfl
 exact⟨A3,c3,rfl,hb,hV.hand hb ho.handF,h5⟩
end
theorem Up.fldL_len{a b:List UInt8}{way:Int}(h:a.length+b.length≤900):(fldL a b way).length≤6000:=by
 have g : ∀{s:List UInt8},s.length≤900→(beB s).length≤906:=fun {s} h=>by
  have h1:=(be_le s).1
  have h2:=pl_len s
  have h3:=numB_len (n:=s.length) (k:=7) (by omega)
  omega
 have h1:=g (s:=a) (by omega)
 have h2:=g (s:=b) (by omega)
 have h3:=putL_len 0 (wR way) (wU way)
 unfold fldL
 simp only[List.length_append]
 omega
theorem Up.great_call{M:Int}{A:Option Addr}{n c:Nat}{xs:List Fd}(hnc:n≤c)(hcm:c≤maxLen)(hS : ∀x∈xs,x.1.size≤140737488355328∧x.2.size≤140737488355328){b:Bool}(hb:grB xs=b) :
  Hid (∀w0:World,Fs w0 w0.heap.size A n xs→Calls Tryz.prog 6 #[.agg #[.int .i64 M,.slice A n c]] w0 fun e w'=>e = .returned (.bool b)∧Below w0.heap.size w0 w'):=
 Lib.hid fun w0 h=>hb ▸ v_Great M A n c xs w0 h hnc hcm hS
theorem Up.right_call{M:Int}{A:Option Addr}{n c:Nat}{xs:List Fd}(hF:full xs≤1000000){b:Bool}(hb:rightB M xs=b) :
  Hid (∀w0:World,Fs w0 w0.heap.size A n xs→Calls Tryz.prog 36 #[.agg #[.int .i64 M,.slice A n c]] w0 fun e w'=>e = .returned (.bool b)∧Below w0.heap.size w0 w'):=
 Lib.hid fun w0 h=>hb ▸ r_right M A n c xs w0 h hF
end Go.Proofs.YtahiajeggbpogaaGreatDoor
