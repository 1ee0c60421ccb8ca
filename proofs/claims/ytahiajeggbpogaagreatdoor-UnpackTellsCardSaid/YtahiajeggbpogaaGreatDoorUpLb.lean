import Derived.Test.YtahiajeggbpogaaGreatDoorUpS
import Derived.Test.YtahiajeggbpogaaGreatDoorUpOm
import Derived.Test.YtahiajeggbpogaaGreatDoorUpOp
import Derived.Test.YtahiajeggbpogaaGreatDoorUpWr
import Derived.Test.YtahiajeggbpogaaGreatDoorUpZ
namespace Go.Proofs.YtahiajeggbpogaaGreatDoor
open Go.RowKit Go.Shelf Px Tx Tb Up
set_option linter.unusedVariables false
set_option linter.unusedSimpArgs false
namespace Up
def BBox(B:Nat)(v:Value)(L:List UInt8)(lb:List Bx):Prop:=
 (v = .slice none 0 0∧L=[]∧lb=[])∨∃g cap cur,v = .slice (some ⟨g,0,none⟩) L.length cap∧lb=[(g,cur,5)]∧B≤g∧∀w:World,w.heap[g]? = some (.cells cur 5)→OwnB w B 5 v L
theorem bbox_of{W:World}{B:Nat}{v:Value}{L:List UInt8}(h:OwnB W B 5 v L) : ∃lb,BBox B v L lb∧(∀y∈lb,W.heap[y.1]? = some (.cells y.2.1 y.2.2)∧v.ownBlock=some y.1)∧lb.length≤1:=by
 rcases h.2 with ⟨rfl,h0⟩ | ⟨g,cap,cur,rfl,hBg,hg,rest⟩
 ·exact⟨[],.inl ⟨rfl,List.eq_nil_of_length_eq_zero h0,rfl⟩,fun y hy=>(by cases hy),by simp⟩
 ·exact⟨[(g,cur,5)],.inr ⟨g,cap,cur,rfl,rfl,hBg,fun w hw=>⟨h.1,.inr ⟨g,cap,cur,rfl,hBg,hw,rest⟩⟩⟩,fun y hy=>by rw[List.mem_singleton.1 hy];exact⟨hg,rfl⟩,by simp⟩
theorem BBox.own{W:World}{B:Nat}{v:Value}{L:List UInt8}{lb:List Bx}{fs:List Fact}{gs:List Bx}(h:BBox B v L lb)(hE:EnvF W fs gs)(hs : ∀y∈lb,y∈gs):OwnB W B 5 v L:=by
 rcases h with ⟨rfl,rfl,rfl⟩ | ⟨g,cap,cur,rfl,rfl,hB,h⟩
 ·exact OwnB.nil_ _ _ _
 ·exact h W (hE.g _ (hs _ (List.mem_singleton_self _)))
theorem BBox.block{B:Nat}{v:Value}{L:List UInt8}{lb:List Bx}(h:BBox B v L lb){r:Nat}(hr:v.ownBlock=some r) : ∃cs t,lb=[(r,cs,t)]:=by
 rcases h with ⟨rfl,rfl,rfl⟩ | ⟨g,cap,cur,rfl,rfl,hB,h⟩
 ·cases hr
 ·have e:some g=some r:=hr
  cases e
  exact⟨_,_,rfl⟩
theorem bbox_append{W W':World}{fs:List Fact}{gs lb:List Bx}{B:Nat}{v v':Value}{L L':List UInt8}(h:EnvF W fs (gs++lb))(hl:BBox B v L lb)(ho:OwnB W' B 5 v' L')(hg:W.grownBy W' v.ownBlock)(hv:v'.ownBlock=v.ownBlock∨v'.ownBlock=some W.heap.size) :
  ∃lb',BBox B v' L' lb'∧EnvF W' fs (gs++lb'):=by
 have hsub:EnvF W fs gs:=h.sub (fun x hx=>hx) (List.sublist_append_left _ _)
 have hne : ∀r,v.ownBlock=some r→(∀x∈fs,¬x.on r)∧∀y∈gs,y.1≠r:=fun r hr=>by
  obtain⟨cs,t,rfl⟩:=hl.block hr
  refine⟨fun x hx hk=>((h.f x hx).2 r hk).2 _ (List.mem_append_right _ (List.mem_singleton_self _)) rfl,fun y hy e=>?_⟩
  have hd:=h.d
  rw[List.map_append,List.nodup_append] at hd
  exact hd.2.2 _ (List.mem_map_of_mem hy) r (by simp) e
 have h1:=hsub.grow3 hg hne
 obtain⟨lb',hl',hb',hlen⟩:=bbox_of ho
 refine⟨lb',hl',?_⟩
 match lb',hlen,hb' with
 | [],_,_=>rw[List.append_nil];exact h1
 | [y],_,hb'=>
  obtain⟨hr,hy⟩:=hb' y (List.mem_singleton_self _)
  rw[hy] at hv
  refine h1.snoc hr ?_ ?_
  ·intro x hx hk
   rcases hv with hv | hv
   ·exact(hne _ hv.symm).1 x hx hk
   ·have hy1:y.1=W.heap.size:=Option.some.inj hv
    have:=((hsub.f x hx).2 _ hk).1
    omega
  ·intro z hz e
   rcases hv with hv | hv
   ·exact(hne _ hv.symm).2 z hz e
   ·have hy1:y.1=W.heap.size:=Option.some.inj hv
    have:=hsub.lt hz
    omega
theorem bbox_hand{W W':World}{fs:List Fact}{gs:List Bx}{B:Nat}{v:Value}{L:List UInt8}(h:EnvF W fs gs)(hb:Below W.heap.size W W')(ho:OwnB W' W.heap.size 5 v L)(hB:B≤W.heap.size) :
  ∃lb,BBox B v L lb∧EnvF W' fs (gs++lb):=by
 obtain⟨lb,hl,hb',hlen⟩:=bbox_of (ho.less hB)
 refine⟨lb,hl,?_⟩
 have h1:=h.on hb
 match lb,hlen,hb' with
 | [],_,_=>rw[List.append_nil];exact h1
 | [y],_,hb'=>
  obtain⟨hr,hy⟩:=hb' y (List.mem_singleton_self _)
  have hbk:=ho.block hy
  refine h1.snoc hr ?_ ?_
  ·intro x hx hk
   have:=((h.f x hx).2 _ hk).1
   omega
  ·intro z hz e
   have:=h.lt hz
   omega
theorem BBox.form{B:Nat}{v:Value}{L:List UInt8}{lb:List Bx}{W:World}{fs:List Fact}{gs:List Bx}(h:BBox B v L lb)(hE:EnvF W fs (gs++lb)) : ∃A c,v = .slice A L.length c∧L.length≤c∧(A=none→c=0):=by
 obtain⟨A,c,e,hh⟩:=(h.own hE (fun y hy=>List.mem_append_right _ hy)).handS (n:=L.length) rfl
 exact⟨A,c,e,hh.2.2⟩
theorem BBox.form2{B:Nat}{v:Value}{L:List UInt8}{lb:List Bx}{W:World}{fs:List Fact}{gs:List Bx}(h:BBox B v L lb)(hE:EnvF W fs (gs++lb)) : ∃A n c,v = .slice A n c∧L.length=n∧n≤c∧(A=none→c=0):=by
 obtain⟨A,c,e,h1,h2⟩:=h.form hE
 exact⟨A,_,c,e,rfl,h1,h2⟩
structure BK (M most:Int) (xs:List Fd) (ls:List UInt8) (E:Int) (nl:Nat) (L:List Fd) (G:Bool) (N:Int) (nt:Nat) (X:List Fd):Prop where
 e:bE M most xs ls=E
 l:bL M most xs ls=L
 g:bG M most xs ls=G
 m:bM M most xs ls=N
 x:bX M most xs ls=X
 nl:L.length=nl
 nt:X.length=nt
theorem bk_of(M most:Int)(xs:List Fd)(ls:List UInt8):BK M most xs ls (bE M most xs ls) (bL M most xs ls).length (bL M most xs ls) (bG M most xs ls) (bM M most xs ls) (bX M most xs ls).length (bX M most xs ls):=⟨rfl,rfl,rfl,rfl,rfl,rfl,rfl⟩
end Up
theorem b_call{fs:List Fact}{gs:List Bx}{M most:Int}{A:Option Addr}{n c:Nat}{xs:List Fd}{LA:Option Addr}{ln lc:Nat}{ls:List UInt8}{E:Int}{nl:Nat}{L:List Fd}{G:Bool}{N:Int}{nt:Nat}{X:List Fd}(w:World)(hk:BK M most xs ls E nl L G N nt X)(hV:EnvF w fs gs)(hL:bF LA ln ls∈fs)(hlc:ln≤lc)(hLN:LA=none→lc=0)(hA:fF A n xs∈fs)(hN:A=none→c=0)(hS:stF∈fs)(hR:rwF∈fs)(hM:mvF∈fs)(hF:full xs≤20000)(hn:ln≤10000) :
  Calls Tryz.prog 8 #[.agg #[.int .i64 M,.slice A n c],.int .i64 most,.slice LA ln lc] w fun e w'=>∃LL cl TT tc,e = .returned (.tuple #[.agg #[.slice LL nl cl,.bool G,.int .i64 N,.slice TT nt tc],.int .i64 E])∧Below w.heap.size w w'∧EnvF w' (fF LL nl L::fF TT nt X::fs) gs∧(LL=none→cl=0)∧(TT=none→tc=0):=by
 obtain⟨rfl,rfl,rfl,rfl,rfl,rfl,rfl⟩:=hk
 exact u_Block w hV hL hlc hLN hA hN hS hR hM hF hn
end Go.Proofs.YtahiajeggbpogaaGreatDoor
namespace Go.Proofs.YtahiajeggbpogaaGreatDoor
open Go.RowKit Go.Shelf Px Tx Tb Up
set_option linter.unusedVariables false
set_option linter.unusedSimpArgs false
section
variable {fs:List Fact}{gs:List Bx}{A:Option Addr}{n c:Nat}{xs:List Fd}{M:Int}
theorem l_resize{m N E:Int}{k:Nat}{L:List Fd}(w:World)(hV:EnvF w fs gs)(hA:fF A n xs∈fs)(hN:A=none→c=0)(hF:full xs≤100000)(h1:resM M xs m=N)(h2:resE M xs m=E)(h3:resL M xs m=L)(h4:L.length=k) :
  Calls Tryz.prog 43 #[.agg #[.int .i64 M,.slice A n c],.int .i64 m] w fun e w'=>∃A3 c3,e = .returned (.tuple #[.agg #[.int .i64 N,.slice A3 k c3],.int .i64 E])∧Below w.heap.size w w'∧EnvF w' (fF A3 k L::fs) gs∧(A3=none→c3=0):=by
 subst h1 h2 h3 h4
 refine(r_resize M A n c xs m w (hV.fs hA) hN hF).mono ?_
 rintro e w' ⟨v,rfl,ho,hb⟩
 obtain⟨A3,c3,rfl,_,h5,_⟩:=ho.form2 (n:=(resL M xs m).length) rfl
 exact⟨A3,c3,rfl,hb,hV.hand hb ho.handF,h5⟩
theorem l_put{i:Int}{r u:Nat}{L:List UInt8}{E:Int}{k:Nat}{f:FuncId}{args:Array Value}(w:World)(hV:EnvF w fs gs)(hc:Calls Tryz.prog f args w (PutD i r u w))(h1:putL i r u=L)(h2:putE i r=E)(h3:L.length=k) :
  Calls Tryz.prog f args w fun e w'=>∃A c,e = .returned (.tuple #[.slice A k c,.int .i64 E])∧Below w.heap.size w w'∧EnvF w' (bF A k L::fs) gs∧(k≤c∧(A=none→c=0)):=by
 subst h1 h2 h3
 refine hc.mono ?_
 rintro e w' ⟨A,c,rfl,ho,hb⟩
 obtain⟨A',c',e,hh⟩:=ho.handS (n:=(putL i r u).length) rfl
 cases e
 exact⟨A,c,rfl,hb,hV.handS hb hh,hh.2.2⟩
theorem l_wakes(w:World)(hV:EnvF w fs gs)(hS:stF∈fs)(hR:rwF∈fs)(hM:mvF∈fs):Calls Tryz.prog 7 #[] w fun e w'=>e = .returned (.bool true)∧Below w.heap.size w w':=wakes10 w hV hS hR hM
end
theorem Up.start_env{w:World}{A:Option Addr}{n:Nat}{xs:List Fd}(h:Vars w)(hA:Fs w w.heap.size A n xs):EnvF w [fF A n xs,stF,rwF,mvF] []:=by
 obtain⟨h1,h2,h3⟩:=h
 have lt : ∀{k:Nat} {v:Value},w.cell? ⟨k,0,none⟩=some v→k<w.heap.size:=fun h=>by
  obtain⟨o,ho,_⟩:=cells_of_cell h
  exact(Array.getElem?_eq_some_iff.1 ho).1
 have k3:EnvF w [mvF] []:=(EnvF.nil w).add0 (x:=mvF) h3 (fun k hk=>by
  obtain⟨⟨a,_⟩,⟨b,_⟩,⟨c,_⟩,⟨d,_⟩,e,_⟩:=h3
  rcases hk with rfl | rfl | rfl | rfl | rfl
  ·exact lt a
  ·exact lt b
  ·exact lt c
  ·exact lt d
  ·exact lt e)
 have k2:EnvF w [rwF,mvF] []:=k3.add0 (x:=rwF) h2 (fun k hk=>by
  cases hk
  exact lt (h2 0 _ rfl))
 have k1:EnvF w [stF,rwF,mvF] []:=k2.add0 (x:=stF) h1 (fun k hk=>by cases hk;exact h1.lt)
 exact k1.addF hA
theorem Up.great_call{M:Int}{A:Option Addr}{n c:Nat}{xs:List Fd}(hnc:n≤c)(hcm:c≤maxLen)(hS : ∀x∈xs,x.1.size≤140737488355328∧x.2.size≤140737488355328){b:Bool}(hb:grB xs=b) :
  Hid (∀w0:World,Fs w0 w0.heap.size A n xs→Calls Tryz.prog 6 #[.agg #[.int .i64 M,.slice A n c]] w0 fun e w'=>e = .returned (.bool b)∧Below w0.heap.size w0 w'):=
 Lib.hid fun w0 h=>hb ▸ v_Great M A n c xs w0 h hnc hcm hS
end Go.Proofs.YtahiajeggbpogaaGreatDoor
namespace Go.Proofs.YtahiajeggbpogaaGreatDoor
open Go.RowKit Go.Shelf Px Tx Tb Up
set_option linter.unusedVariables false
set_option linter.unusedSimpArgs false
theorem l_named{fs:List Fact}{gs:List Bx}{i way:Int}{b:List UInt8}{L:List UInt8}{E:Int}{k:Nat}(w:World)(hV:EnvF w fs gs)(hR:rwF∈fs)(hM:mvF∈fs)(hb:b.length≤10000)(h1:nmL i b way=L)(h2:nmE i way=E)(h3:L.length=k) :
  Calls Tryz.prog 15 #[.int .i64 i,.string ⟨b.toArray⟩,.int .i64 way] w fun e w'=>∃A c,e = .returned (.tuple #[.slice A k c,.int .i64 E])∧Below w.heap.size w w'∧EnvF w' (bF A k L::fs) gs∧(k≤c∧(A=none→c=0)):=by
 subst h1 h2 h3
 refine(u_Named i b way w hV hR hM hb).mono ?_
 rintro e w' ⟨A,c,rfl,hh,hb⟩
 exact⟨A,c,rfl,hb,hV.handS hb hh,hh.2.2⟩
end Go.Proofs.YtahiajeggbpogaaGreatDoor
