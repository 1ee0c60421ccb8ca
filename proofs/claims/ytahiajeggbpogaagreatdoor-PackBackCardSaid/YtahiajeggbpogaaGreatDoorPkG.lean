import Derived.Test.YtahiajeggbpogaaGreatDoorUpA
import Derived.Test.YtahiajeggbpogaaGreatDoorMTa
import Derived.Test.YtahiajeggbpogaaGreatDoorMGa
namespace Go.Proofs.YtahiajeggbpogaaGreatDoor
open Go.RowKit Go.Shelf Tb
set_option linter.unusedVariables false
set_option linter.unusedSimpArgs false
namespace Pk
theorem envgrow3{W W':World}{fs:List Fact}{gs:List Bx}{row:Option Nat}(h:EnvF W fs gs)(hg:W.grownBy W' row)(hne : ∀r,row=some r→(∀x∈fs,¬x.on r)∧∀y∈gs,y.1≠r):EnvF W' fs gs:=
 ⟨fun x hx=>⟨x.dep W W' (h.f x hx).1 hg.size fun k hk=>hg.block k ((h.f x hx).2 k hk).1 (fun e=>(hne k e.symm).1 x hx hk),fun k hk=>⟨Nat.lt_of_lt_of_le ((h.f x hx).2 k hk).1 hg.size,((h.f x hx).2 k hk).2⟩⟩,
  fun y hy=>(hg.block _ (h.lt hy) (fun e=>(hne _ e.symm).2 y hy rfl)).trans (h.g y hy),h.d⟩
theorem envsnoc{W:World}{fs:List Fact}{gs:List Bx}{y:Bx}(h:EnvF W fs gs)(hr:W.heap[y.1]? = some (.cells y.2.1 y.2.2))(hf : ∀x∈fs,¬x.on y.1)(hg : ∀z∈gs,z.1≠y.1):EnvF W fs (gs++[y]):=by
 refine⟨fun x hx=>⟨(h.f x hx).1,fun k hk=>⟨((h.f x hx).2 k hk).1,fun z hz=>?_⟩⟩,fun z hz=>?_,?_⟩
 ·rcases List.mem_append.1 hz with hz | hz
  ·exact((h.f x hx).2 k hk).2 z hz
  ·rw[List.mem_singleton.1 hz];exact fun e=>hf x hx (e ▸ hk)
 ·rcases List.mem_append.1 hz with hz | hz
  ·exact h.g z hz
  ·rw[List.mem_singleton.1 hz];exact hr
 ·rw[List.map_append,List.nodup_append]
  refine⟨h.d,by simp,fun a ha b hb=>?_⟩
  obtain⟨z,hz,rfl⟩:=List.mem_map.1 ha
  simp only[List.map_cons,List.map_nil,List.mem_singleton] at hb
  rw[hb]
  exact hg z hz
theorem envgrow2{A B:World}{fs:List Fact}{gs:List Bx}{row:Option Nat}(h:EnvF A fs gs)(hg:A.grownBy B row)(hr : ∀r,row=some r→∃o:Obj,A.heap[r]? = some o∧o.isCells=false)(hf : ∀x∈fs,∀r,row=some r→¬x.on r):EnvF B fs gs:=
 envgrow3 h hg fun r e=>⟨fun x hx=>hf x hx r e,fun y hy he=>by
  obtain⟨o,ho,hc⟩:=hr r e
  have:=h.g y hy
  rw[he,ho] at this
  cases this
  cases hc⟩
theorem envsetCell1{w:World}{fs:List Fact}{gs:List Bx}(h:EnvF w fs gs)(i:Nat){g j:Nat}{old:Array Value}{t:TypeId}(hi:gs[i]? = some (g,old,t))(v:Value){cs:Array Value}(hcs:old.setIfInBounds j v=cs):EnvF (w.setCell ⟨g,j,none⟩ v) fs (gs.set i (g,cs,t)):=by
 subst hcs
 exact h.turn i hi (Go.heap_setCell_same w g j old t v (h.row i hi)) (fun k hk=>Go.heap_setCell_other w ⟨g,j,none⟩ k v hk) (by simp)
theorem keepsFrom_setCell1{W:World}{g j:Nat}{old:Array Value}{t:TypeId}(hg:W.heap[g]? = some (.cells old t))(v:Value)(B:Nat):KeepsFrom B W (W.setCell ⟨g,j,none⟩ v):=
 ⟨by simp,fun k o _ hk ho=>by
  have hne:k≠g:=fun e=>by subst e;rw[hg] at hk;cases hk;cases ho
  exact(Go.heap_setCell_other W ⟨g,j,none⟩ k v hne).trans hk⟩
theorem keepsFrom_grown{W W':World}{row:Option Nat}(hg:W.grownBy W' row)(hr : ∀r,row=some r→∃o:Obj,W.heap[r]? = some o∧o.isCells=true)(B:Nat):KeepsFrom B W W':=
 ⟨hg.size,fun k o _ hk ho=>(hg.block k (Array.getElem?_eq_some_iff.1 hk).1 (fun e=>by
  obtain⟨o2,h2,h3⟩:=hr k e.symm
  rw[hk] at h2
  cases h2
  rw[ho] at h3
  cases h3)).trans hk⟩
theorem fF_cells{W:World}{A:Option Addr}{n:Nat}{xs:List Fd}(h:Fs W W.heap.size A n xs){r:Nat}(hr:(fF A n xs).on r){o:Obj}(ho:W.heap[r]? = some o):o.isCells=true:=by
 obtain⟨hn,q,e⟩:=hr
 obtain⟨b,o2,e2,_,hc⟩:=fs_cell h hn
 rw[e] at e2
 cases e2
 obtain⟨x,_,h1,_⟩:=hc 0 hn
 obtain⟨o3,h3,h4⟩:=cells_of_cell h1
 rw[ho] at h3
 cases h3
 exact h4
theorem bF_cells{W:World}{A:Option Addr}{n:Nat}{xs:List UInt8}(h:Bs W W.heap.size A n xs){r:Nat}(hr:(bF A n xs).on r){o:Obj}(ho:W.heap[r]? = some o):o.isCells=true:=by
 obtain⟨hn,q,e⟩:=hr
 obtain⟨b,o2,e2,_,hc⟩:=bs_cell h hn
 rw[e] at e2
 cases e2
 obtain⟨x,_,h1⟩:=hc 0 hn
 obtain⟨o3,h3,h4⟩:=cells_of_cell h1
 rw[ho] at h3
 cases h3
 exact h4
def BX(B:Nat)(v:Value)(L:List UInt8)(lb:List Bx):Prop:=
 (v = .slice none 0 0∧L=[]∧lb=[])∨∃g cap cur,v = .slice (some ⟨g,0,none⟩) L.length cap∧lb=[(g,cur,5)]∧B≤g∧∀w:World,w.heap[g]? = some (.cells cur 5)→OwnB w B 5 v L
theorem bx_of{W:World}{B:Nat}{v:Value}{L:List UInt8}(h:OwnB W B 5 v L) : ∃lb,BX B v L lb∧(∀y∈lb,W.heap[y.1]? = some (.cells y.2.1 y.2.2)∧v.ownBlock=some y.1)∧lb.length≤1:=by
 rcases h.2 with ⟨rfl,h0⟩ | ⟨g,cap,cur,rfl,hBg,hg,rest⟩
 ·exact⟨[],.inl ⟨rfl,List.eq_nil_of_length_eq_zero h0,rfl⟩,fun y hy=>(by cases hy),by simp⟩
 ·exact⟨[(g,cur,5)],.inr ⟨g,cap,cur,rfl,rfl,hBg,fun w hw=>⟨h.1,.inr ⟨g,cap,cur,rfl,hBg,hw,rest⟩⟩⟩,fun y hy=>by rw[List.mem_singleton.1 hy];exact⟨hg,rfl⟩,by simp⟩
theorem BX.own{W:World}{B:Nat}{v:Value}{L:List UInt8}{lb:List Bx}{fs:List Fact}{gs:List Bx}(h:BX B v L lb)(hE:EnvF W fs gs)(hs : ∀y∈lb,y∈gs):OwnB W B 5 v L:=by
 rcases h with ⟨rfl,rfl,rfl⟩ | ⟨g,cap,cur,rfl,rfl,hB,h⟩
 ·exact OwnB.nil_ _ _ _
 ·exact h W (hE.g _ (hs _ (List.mem_singleton_self _)))
theorem BX.block{B:Nat}{v:Value}{L:List UInt8}{lb:List Bx}(h:BX B v L lb){r:Nat}(hr:v.ownBlock=some r) : ∃cs t,lb=[(r,cs,t)]:=by
 rcases h with ⟨rfl,rfl,rfl⟩ | ⟨g,cap,cur,rfl,rfl,hB,h⟩
 ·cases hr
 ·have e:some g=some r:=hr
  cases e
  exact⟨_,_,rfl⟩
theorem bx_append{W W':World}{fs:List Fact}{gs lb:List Bx}{B:Nat}{v v':Value}{L L':List UInt8}(h:EnvF W fs (gs++lb))(hl:BX B v L lb)(ho:OwnB W' B 5 v' L')(hg:W.grownBy W' v.ownBlock)(hv:v'.ownBlock=v.ownBlock∨v'.ownBlock=some W.heap.size) :
  ∃lb',BX B v' L' lb'∧EnvF W' fs (gs++lb'):=by
 have hsub:EnvF W fs gs:=h.sub (fun x hx=>hx) (List.sublist_append_left _ _)
 have hne : ∀r,v.ownBlock=some r→(∀x∈fs,¬x.on r)∧∀y∈gs,y.1≠r:=fun r hr=>by
  obtain⟨cs,t,rfl⟩:=hl.block hr
  refine⟨fun x hx hk=>((h.f x hx).2 r hk).2 _ (List.mem_append_right _ (List.mem_singleton_self _)) rfl,fun y hy e=>?_⟩
  have hd:=h.d
  rw[List.map_append,List.nodup_append] at hd
  exact hd.2.2 _ (List.mem_map_of_mem hy) r (by simp) e
 have h1:=envgrow3 hsub hg hne
 obtain⟨lb',hl',hb',hlen⟩:=bx_of ho
 refine⟨lb',hl',?_⟩
 match lb',hlen,hb' with
 | [],_,_=>rw[List.append_nil];exact h1
 | [y],_,hb'=>
  obtain⟨hr,hy⟩:=hb' y (List.mem_singleton_self _)
  rw[hy] at hv
  refine envsnoc h1 hr ?_ ?_
  ·intro x hx hk
   rcases hv with hv | hv
   ·exact(hne _ hv.symm).1 x hx hk
   ·have hy1:y.1=W.heap.size:=Option.some.inj hv
    have:=((hsub.f x hx).2 _ hk).1
    omega
  ·intro z hz e
   rcases hv with hv | hv
   ·exact(hne _ hv.symm).2 z hz e
   ·have hy1:y.1=W.heap.size:=Option.some.inj hv
    have:=hsub.lt hz
    omega
theorem bx_hand{W W':World}{fs:List Fact}{gs:List Bx}{B:Nat}{v:Value}{L:List UInt8}(h:EnvF W fs gs)(hb:Below W.heap.size W W')(ho:OwnB W' W.heap.size 5 v L)(hB:B≤W.heap.size) :
  ∃lb,BX B v L lb∧EnvF W' fs (gs++lb):=by
 obtain⟨lb,hl,hb',hlen⟩:=bx_of (ho.less hB)
 refine⟨lb,hl,?_⟩
 have h1:=h.on hb
 match lb,hlen,hb' with
 | [],_,_=>rw[List.append_nil];exact h1
 | [y],_,hb'=>
  obtain⟨hr,hy⟩:=hb' y (List.mem_singleton_self _)
  have hbk:=ho.block hy
  refine envsnoc h1 hr ?_ ?_
  ·intro x hx hk
   have:=((h.f x hx).2 _ hk).1
   omega
  ·intro z hz e
   have:=h.lt hz
   omega
theorem BX.form{B:Nat}{v:Value}{L:List UInt8}{lb:List Bx}{W:World}{fs:List Fact}{gs:List Bx}(h:BX B v L lb)(hE:EnvF W fs (gs++lb)) : ∃A c,v = .slice A L.length c∧L.length≤c∧(A=none→c=0):=by
 obtain⟨A,c,e,hh⟩:=(h.own hE (fun y hy=>List.mem_append_right _ hy)).handS (n:=L.length) rfl
 exact⟨A,c,e,hh.2.2⟩
theorem bx_fact{W:World}{fs:List Fact}{gs lb:List Bx}{B:Nat}{LL:Option Addr}{ll cl:Nat}{L:List UInt8}(h:EnvF W fs (gs++lb))(hl:BX B (.slice LL ll cl) L lb)(hn:L.length=ll):EnvF W (bF LL ll L::fs) gs:=by
 have ho:=hl.own h (fun y hy=>List.mem_append_right _ hy)
 subst hn
 have hs:EnvF W fs gs:=h.sub (fun x hx=>hx) (List.sublist_append_left _ _)
 obtain⟨A',c',e,hh⟩:=ho.handS (n:=L.length) rfl
 cases e
 refine hs.fact hh.1 (fun k hk=>?_)
 have hlt:=bs_on hh.1 k hk
 obtain⟨hn,o,e⟩:=hk
 refine⟨hlt,fun y hy e2=>?_⟩
 obtain⟨cs,t,rfl⟩:=hl.block (r:=k) (by rw[e];rfl)
 have hd:=h.d
 rw[List.map_append,List.nodup_append] at hd
 exact hd.2.2 _ (List.mem_map_of_mem hy) k (by simp) e2.symm
theorem env_cons{W:World}{fs:List Fact}{gs:List Bx}{y:Bx}(h:EnvF W fs gs)(hr:W.heap[y.1]? = some (.cells y.2.1 y.2.2))(hf : ∀x∈fs,¬x.on y.1)(hg : ∀z∈gs,z.1≠y.1):EnvF W fs (y::gs):=by
 refine⟨fun x hx=>⟨(h.f x hx).1,fun k hk=>⟨((h.f x hx).2 k hk).1,fun z hz=>?_⟩⟩,fun z hz=>?_,?_⟩
 ·rcases List.mem_cons.1 hz with rfl | hz
  ·exact fun e=>hf x hx (e ▸ hk)
  ·exact((h.f x hx).2 k hk).2 z hz
 ·rcases List.mem_cons.1 hz with rfl | hz
  ·exact hr
  ·exact h.g z hz
 ·rw[List.map_cons,List.nodup_cons]
  refine⟨fun hm=>?_,h.d⟩
  obtain⟨z,hz,e⟩:=List.mem_map.1 hm
  exact hg z hz e
theorem bs_cells{w:World}{B n:Nat}{A:Option Addr}{xs:List UInt8}(h:Bs w B A n xs)(hn:0<n) : ∃b o,A=some ⟨b,o,none⟩∧b<B∧∀j u,(xs.map bv)[j]? = some u→w.cell? ((⟨b,o,none⟩:Addr).add j)=some u:=by
 obtain⟨hl,hc⟩:=h
 obtain⟨b,o,rfl,hb,hc⟩:=hc hn
 refine⟨b,o,rfl,hb,fun j u hu=>?_⟩
 have hadd:(⟨b,o,none⟩:Addr).add j=⟨b,o+j,none⟩:=by unfold Addr.add;split<;>simp_all
 rw[List.getElem?_map] at hu
 obtain⟨x,hx,rfl⟩:=Option.map_eq_some_iff.1 hu
 have hj:j<n:=by rw[←hl];exact(List.getElem?_eq_some_iff.1 hx).1
 rw[hadd,hc j hj,hx]
 rfl
end Pk
end Go.Proofs.YtahiajeggbpogaaGreatDoor
