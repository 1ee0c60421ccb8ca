import Derived.Test.YtahiajeggbpogaaGreatDoorUpR
import Derived.Test.YtahiajeggbpogaaGreatDoorUpO
namespace Go.Proofs.YtahiajeggbpogaaGreatDoor
open Go.RowKit Go.Shelf Px Tx Tb Up
set_option linter.unusedVariables false
set_option linter.unusedSimpArgs false
namespace Up
def BBox(B:Nat)(v:Value)(L:List UInt8)(lb:List Bx):Prop:=
 (v = .slice none 0 0∧L=[]∧lb=[])∨∃g cap cur,v = .slice (some ⟨g,0,none⟩) L.length cap∧lb=[(g,cur,5)]∧B≤g∧∀w:World,w.heap[g]? = some (.cells cur 5)→OwnB w B 5 v L
theorem bbox_of{W:World}{B:Nat}{v:Value}{L:List UInt8}(h:OwnB W B 5 v L) : ∃lb,BBox B v L lb∧(∀y∈lb,W.heap[y.1]? = some (.cells y.2.1 y.2.2)∧v.ownBlock=some y.1)∧lb.length≤1:=by
 rcases h.2 with ⟨rfl,h0⟩ | ⟨g,cap,cur,rfl,hBg,hg,rest⟩
 ·exact⟨[],.inl ⟨rfl,List.eq_nil_of_length_eq_zero h0,rfl⟩,fun y hy=>(by cases hy),by simp⟩
 ·exact⟨[(g,cur,5)],.inr ⟨g,cap,cur,rfl,rfl,hBg,fun w hw=>⟨h.1,.inr ⟨g,cap,cur,rfl,hBg,hw,rest⟩⟩⟩,fun y hy=>by rw[List.mem_singleton.1 hy];exact⟨hg,rfl⟩,by simp⟩
theorem BBox.own{W:World}{B:Nat}{v:Value}{L:List UInt8}{lb:List Bx}{fs:List Fact}{gs:List Bx}(h:BBox B v L lb)(hE:EnvF W fs gs)(hs : ∀y∈lb,y∈gs):OwnB W B 5 v L:=by
 rcases h with ⟨rfl,rfl,rfl⟩ | ⟨g,cap,cur,rfl,rfl,hB,h⟩
 ·exact OwnB.nil_ _ _ _
 ·exact h W (hE.g _ (hs _ (List.mem_singleton_self _)))
theorem BBox.block{B:Nat}{v:Value}{L:List UInt8}{lb:List Bx}(h:BBox B v L lb){r:Nat}(hr:v.ownBlock=some r) : ∃cs t,lb=[(r,cs,t)]:=by
 rcases h with ⟨rfl,rfl,rfl⟩ | ⟨g,cap,cur,rfl,rfl,hB,h⟩
 ·cases hr
 ·have e:some g=some r:=hr
  cases e
  exact⟨_,_,rfl⟩
theorem bbox_append{W W':World}{fs:List Fact}{gs lb:List Bx}{B:Nat}{v v':Value}{L L':List UInt8}(h:EnvF W fs (gs++lb))(hl:BBox B v L lb)(ho:OwnB W' B 5 v' L')(hg:W.grownBy W' v.ownBlock)(hv:v'.ownBlock=v.ownBlock∨v'.ownBlock=some W.heap.size) :
  ∃lb',BBox B v' L' lb'∧EnvF W' fs (gs++lb'):=by
 have hsub:EnvF W fs gs:=h.sub (fun x hx=>hx) (List.sublist_append_left _ _)
 have hne : ∀r,v.ownBlock=some r→(∀x∈fs,¬x.on r)∧∀y∈gs,y.1≠r:=fun r hr=>by
  obtain⟨cs,t,rfl⟩:=hl.block hr
  refine⟨fun x hx hk=>((h.f x hx).2 r hk).2 _ (List.mem_append_right _ (List.mem_singleton_self _)) rfl,fun y hy e=>?_⟩
  have hd:=h.d
  rw[List.map_append,List.nodup_append] at hd
  exact hd.2.2 _ (List.mem_map_of_mem hy) r (by simp) e
 have h1:=hsub.grow3 hg hne
 obtain⟨lb',hl',hb',hlen⟩:=bbox_of ho
 refine⟨lb',hl',?_⟩
 match lb',hlen,hb' with
 | [],_,_=>rw[List.append_nil];exact h1
 | [y],_,hb'=>
  obtain⟨hr,hy⟩:=hb' y (List.mem_singleton_self _)
  rw[hy] at hv
  refine h1.snoc hr ?_ ?_
  ·intro x hx hk
   rcases hv with hv | hv
   ·exact(hne _ hv.symm).1 x hx hk
   ·have hy1:y.1=W.heap.size:=Option.some.inj hv
    have:=((hsub.f x hx).2 _ hk).1
    omega
  ·intro z hz e
   rcases hv with hv | hv
   ·exact(hne _ hv.symm).2 z hz e
   ·have hy1:y.1=W.heap.size:=Option.some.inj hv
    have:=hsub.lt hz
    omega
theorem bbox_hand{W W':World}{fs:List Fact}{gs:List Bx}{B:Nat}{v:Value}{L:List UInt8}(h:EnvF W fs gs)(hb:Below W.heap.size W W')(ho:OwnB W' W.heap.size 5 v L)(hB:B≤W.heap.size) :
  ∃lb,BBox B v L lb∧EnvF W' fs (gs++lb):=by
 obtain⟨lb,hl,hb',hlen⟩:=bbox_of (ho.less hB)
 refine⟨lb,hl,?_⟩
 have h1:=h.on hb
 match lb,hlen,hb' with
 | [],_,_=>rw[List.append_nil];exact h1
 | [y],_,hb'=>
  obtain⟨hr,hy⟩:=hb' y (List.mem_singleton_self _)
  have hbk:=ho.block hy
  refine h1.snoc hr ?_ ?_
  ·intro x hx hk
   have:=((h.f x hx).2 _ hk).1
   omega
  ·intro z hz e
   have:=h.lt hz
   omega
theorem BBox.form{B:Nat}{v:Value}{L:List UInt8}{lb:List Bx}{W:World}{fs:List Fact}{gs:List Bx}(h:BBox B v L lb)(hE:EnvF W fs (gs++lb)) : ∃A c,v = .slice A L.length c∧L.length≤c∧(A=none→c=0):=by
 obtain⟨A,c,e,hh⟩:=(h.own hE (fun y hy=>List.mem_append_right _ hy)).handS (n:=L.length) rfl
 exact⟨A,c,e,hh.2.2⟩
theorem BBox.form2{B:Nat}{v:Value}{L:List UInt8}{lb:List Bx}{W:World}{fs:List Fact}{gs:List Bx}(h:BBox B v L lb)(hE:EnvF W fs (gs++lb)) : ∃A n c,v = .slice A n c∧L.length=n∧n≤c∧(A=none→c=0):=by
 obtain⟨A,c,e,h1,h2⟩:=h.form hE
 exact⟨A,_,c,e,rfl,h1,h2⟩
structure BK (M most:Int) (xs:List Fd) (ls:List UInt8) (E:Int) (nl:Nat) (L:List Fd) (G:Bool) (N:Int) (nt:Nat) (X:List Fd):Prop where
 e:bE M most xs ls=E
 l:bL M most xs ls=L
 g:bG M most xs ls=G
 m:bM M most xs ls=N
 x:bX M most xs ls=X
 nl:L.length=nl
 nt:X.length=nt
end Up
end Go.Proofs.YtahiajeggbpogaaGreatDoor
