import Derived.Test.YtahiajeggbpogaaGreatDoorUpM
set_option maxRecDepth 100000
set_option maxHeartbeats 4000000
namespace Go.Proofs.YtahiajeggbpogaaGreatDoor
open Go.RowKit Go.Shelf Px Tx Tb Up
set_option linter.unusedVariables false
set_option linter.unusedSimpArgs false
attribute [local go_sem] Oper.semAt_some
namespace Up
def LBox(B:Nat)(v:Value)(L:List Fd)(lb:List Bx):Prop:=
 (v = .slice none 0 0∧L=[]∧lb=[])∨∃g cap cur,v = .slice (some ⟨g,0,none⟩) L.length cap∧lb=[(g,cur,27)]∧B≤g∧∀w:World,w.heap[g]? = some (.cells cur 27)→OwnF w B 27 v L
theorem lbox_of{W:World}{B:Nat}{v:Value}{L:List Fd}(h:OwnF W B 27 v L) : ∃lb,LBox B v L lb∧(∀y∈lb,W.heap[y.1]? = some (.cells y.2.1 y.2.2)∧v.ownBlock=some y.1)∧lb.length≤1:=by
 rcases h.2 with ⟨rfl,h0⟩ | ⟨g,cap,cur,rfl,hBg,hg,rest⟩
 ·exact⟨[],.inl ⟨rfl,List.eq_nil_of_length_eq_zero h0,rfl⟩,fun y hy=>(by cases hy),by simp⟩
 ·exact⟨[(g,cur,27)],.inr ⟨g,cap,cur,rfl,rfl,hBg,fun w hw=>⟨h.1,.inr ⟨g,cap,cur,rfl,hBg,hw,rest⟩⟩⟩,fun y hy=>by rw[List.mem_singleton.1 hy];exact⟨hg,rfl⟩,by simp⟩
theorem LBox.own{W:World}{B:Nat}{v:Value}{L:List Fd}{lb:List Bx}{fs:List Fact}{gs:List Bx}(h:LBox B v L lb)(hE:EnvF W fs gs)(hs : ∀y∈lb,y∈gs):OwnF W B 27 v L:=by
 rcases h with ⟨rfl,rfl,rfl⟩ | ⟨g,cap,cur,rfl,rfl,hB,h⟩
 ·exact OwnF.nil_ _ _ _
 ·exact h W (hE.g _ (hs _ (List.mem_singleton_self _)))
theorem LBox.block{B:Nat}{v:Value}{L:List Fd}{lb:List Bx}(h:LBox B v L lb){r:Nat}(hr:v.ownBlock=some r) : ∃cs t,lb=[(r,cs,t)]:=by
 rcases h with ⟨rfl,rfl,rfl⟩ | ⟨g,cap,cur,rfl,rfl,hB,h⟩
 ·cases hr
 ·have e:some g=some r:=hr
  cases e
  exact⟨_,_,rfl⟩
end Up
theorem EnvF.grow3{W W':World}{fs:List Fact}{gs:List Bx}{row:Option Nat}(h:EnvF W fs gs)(hg:W.grownBy W' row)(hne : ∀r,row=some r→(∀x∈fs,¬x.on r)∧∀y∈gs,y.1≠r):EnvF W' fs gs:=
 ⟨fun x hx=>⟨x.dep W W' (h.f x hx).1 hg.size fun k hk=>hg.block k ((h.f x hx).2 k hk).1 (fun e=>(hne k e.symm).1 x hx hk),fun k hk=>⟨Nat.lt_of_lt_of_le ((h.f x hx).2 k hk).1 hg.size,((h.f x hx).2 k hk).2⟩⟩,
  fun y hy=>(hg.block _ (h.lt hy) (fun e=>(hne _ e.symm).2 y hy rfl)).trans (h.g y hy),h.d⟩
theorem EnvF.snoc{W:World}{fs:List Fact}{gs:List Bx}{y:Bx}(h:EnvF W fs gs)(hr:W.heap[y.1]? = some (.cells y.2.1 y.2.2))(hf : ∀x∈fs,¬x.on y.1)(hg : ∀z∈gs,z.1≠y.1):EnvF W fs (gs++[y]):=by
 refine⟨fun x hx=>⟨(h.f x hx).1,fun k hk=>⟨((h.f x hx).2 k hk).1,fun z hz=>?_⟩⟩,fun z hz=>?_,?_⟩
 ·rcases List.mem_append.1 hz with hz | hz
  ·exact((h.f x hx).2 k hk).2 z hz
  ·rw[List.mem_singleton.1 hz];exact fun e=>hf x hx (e ▸ hk)
 ·rcases List.mem_append.1 hz with hz | hz
  ·exact h.g z hz
  ·rw[List.mem_singleton.1 hz];exact hr
 ·rw[List.map_append,List.nodup_append]
  refine⟨h.d,by simp,fun a ha b hb=>?_⟩
  obtain⟨z,hz,rfl⟩:=List.mem_map.1 ha
  simp only[List.map_cons,List.map_nil,List.mem_singleton] at hb
  rw[hb]
  exact hg z hz
theorem Up.lbox_append{W W':World}{fs:List Fact}{gs lb:List Bx}{B:Nat}{v v':Value}{L L':List Fd}(h:EnvF W fs (gs++lb))(hl:LBox B v L lb)(ho:OwnF W' B 27 v' L')(hg:W.grownBy W' v.ownBlock)(hv:v'.ownBlock=v.ownBlock∨v'.ownBlock=some W.heap.size) :
  ∃lb',LBox B v' L' lb'∧EnvF W' fs (gs++lb'):=by
 have hsub:EnvF W fs gs:=h.sub (fun x hx=>hx) (List.sublist_append_left _ _)
 have hne : ∀r,v.ownBlock=some r→(∀x∈fs,¬x.on r)∧∀y∈gs,y.1≠r:=fun r hr=>by
  obtain⟨cs,t,rfl⟩:=hl.block hr
  refine⟨fun x hx hk=>((h.f x hx).2 r hk).2 _ (List.mem_append_right _ (List.mem_singleton_self _)) rfl,fun y hy e=>?_⟩
  have hd:=h.d
  rw[List.map_append,List.nodup_append] at hd
  exact hd.2.2 _ (List.mem_map_of_mem hy) r (by simp) e
 have h1:=hsub.grow3 hg hne
 obtain⟨lb',hl',hb',hlen⟩:=lbox_of ho
 refine⟨lb',hl',?_⟩
 match lb',hlen,hb' with
 | [],_,_=>rw[List.append_nil];exact h1
 | [y],_,hb'=>
  obtain⟨hr,hy⟩:=hb' y (List.mem_singleton_self _)
  rw[hy] at hv
  refine h1.snoc hr ?_ ?_
  ·intro x hx hk
   rcases hv with hv | hv
   ·exact(hne _ hv.symm).1 x hx hk
   ·have hy1:y.1=W.heap.size:=Option.some.inj hv
    have:=((hsub.f x hx).2 _ hk).1
    omega
  ·intro z hz e
   rcases hv with hv | hv
   ·exact(hne _ hv.symm).2 z hz e
   ·have hy1:y.1=W.heap.size:=Option.some.inj hv
    have:=hsub.lt hz
    omega
theorem EnvF.grow2{A B:World}{fs:List Fact}{gs:List Bx}{row:Option Nat}(h:EnvF A fs gs)(hg:A.grownBy B row)(hr : ∀r,row=some r→∃o:Obj,A.heap[r]? = some o∧o.isCells=false)(hf : ∀x∈fs,∀r,row=some r→¬x.on r):EnvF B fs gs:=
 h.grow3 hg fun r e=>⟨fun x hx=>hf x hx r e,fun y hy he=>by
  obtain⟨o,ho,hc⟩:=hr r e
  have:=h.g y hy
  rw[he,ho] at this
  cases this
  cases hc⟩
theorem keepsFrom_setCell1{W:World}{g j:Nat}{old:Array Value}{t:TypeId}(hg:W.heap[g]? = some (.cells old t))(v:Value)(B:Nat):KeepsFrom B W (W.setCell ⟨g,j,none⟩ v):=
 ⟨by simp,fun k o _ hk ho=>by
  have hne:k≠g:=fun e=>by subst e;rw[hg] at hk;cases hk;cases ho
  exact(Go.heap_setCell_other W ⟨g,j,none⟩ k v hne).trans hk⟩
theorem keepsFrom_grown{W W':World}{row:Option Nat}(hg:W.grownBy W' row)(hr : ∀r,row=some r→∃o:Obj,W.heap[r]? = some o∧o.isCells=true)(B:Nat):KeepsFrom B W W':=
 ⟨hg.size,fun k o _ hk ho=>(hg.block k (Array.getElem?_eq_some_iff.1 hk).1 (fun e=>by
  obtain⟨o2,h2,h3⟩:=hr k e.symm
  rw[hk] at h2
  cases h2
  rw[ho] at h3
  cases h3)).trans hk⟩
theorem fF_cells{W:World}{A:Option Addr}{n:Nat}{xs:List Fd}(h:Fs W W.heap.size A n xs){r:Nat}(hr:(fF A n xs).on r){o:Obj}(ho:W.heap[r]? = some o):o.isCells=true:=by
 obtain⟨hn,q,e⟩:=hr
 obtain⟨b,o2,e2,_,hc⟩:=fs_cell h hn
 rw[e] at e2
 cases e2
 obtain⟨x,_,h1,_⟩:=hc 0 hn
 obtain⟨o3,h3,h4⟩:=cells_of_cell h1
 rw[ho] at h3
 cases h3
 exact h4
theorem bF_cells{W:World}{A:Option Addr}{n:Nat}{xs:List UInt8}(h:Bs W W.heap.size A n xs){r:Nat}(hr:(bF A n xs).on r){o:Obj}(ho:W.heap[r]? = some o):o.isCells=true:=by
 obtain⟨hn,q,e⟩:=hr
 obtain⟨b,o2,e2,_,hc⟩:=bs_cell h hn
 rw[e] at e2
 cases e2
 obtain⟨x,_,h1⟩:=hc 0 hn
 obtain⟨o3,h3,h4⟩:=cells_of_cell h1
 rw[ho] at h3
 cases h3
 exact h4
namespace Up
def HW(w:World)(f1:List Fact)(g0:List Bx)(tb:Array Value)(g K eb b1 N:Nat)(most:Int)(s0:Sta)(ex:List Bx)(k:Nat)(s:Sta)(W:World):Prop:=
 okS s0 k∧N≤W.heap.size∧Below w.heap.size w W∧∃A n c LA ln lc v lb,LBox w.heap.size v (keep 2000 (FL s0 k)) lb∧ln≤lc∧(LA=none→lc=0)∧(A=none→c=0)∧
  EnvF W (fF A n s.xs::bF LA ln s.ls::kF K::f1) (ex++((b1,#[.pointer (some ⟨g,0,none⟩)],55)::(eb,#[.int .i64 0],32)::(g,rdc K most s.M A n c LA ln lc,64)::(w.heap.size+1+1+1,#[.int .i64 (full (FL s0 k):Int)],3)::(w.heap.size+1+1,#[v,.bool (decide (2000<full (FL s0 k))),.int .i64 0,.slice none 0 0],31)::(w.heap.size+1,#[.slice none 0 0,.bool false,.int .i64 0,.slice none 0 0],31)::(w.heap.size,tb,24)::(g0++lb)))
theorem HW.grow{w:World}{f1:List Fact}{g0:List Bx}{tb:Array Value}{g K eb b1 N:Nat}{most:Int}{s0:Sta}{ex:List Bx}{k:Nat}{s:Sta}{W W':World}{row:Option Nat}(h:HW w f1 g0 tb g K eb b1 N most s0 ex k s W)(hg:W.grownBy W' row)
  (hr : ∀r,row=some r→N≤r∧∃o:Obj,W.heap[r]? = some o∧o.isCells=false) (hK:K<N) (hf : ∀x∈f1,∀k,x.on k→k<N) (hw:w.heap.size≤N):HW w f1 g0 tb g K eb b1 N most s0 ex k s W':=by
 obtain⟨h1,h2,h3,A,n,c,LA,ln,lc,v,lb,h4,h5,h6,h7,h8⟩:=h
 refine⟨h1,Nat.le_trans h2 hg.size,⟨hg.os.trans h3.os,hg.tape.trans h3.tape,hg.output.trans h3.output,Nat.le_trans h3.size hg.size,fun j hj=>(hg.block j (Nat.lt_of_lt_of_le hj h3.size) (fun e=>by have:=(hr j e.symm).1;omega)).trans (h3.block j hj)⟩,A,n,c,LA,ln,lc,v,lb,h4,h5,h6,h7,?_⟩
 refine h8.grow2 hg (fun r e=>(hr r e).2) (fun x hx r e hon=>?_)
 obtain⟨hN,o,ho,hc⟩:=hr r e
 simp only[List.mem_cons] at hx
 rcases hx with rfl | rfl | rfl | hx
 ·have:=fF_cells (h8.fs (by simp)) hon ho;rw[hc] at this;cases this
 ·have:=bF_cells (h8.bs (by simp)) hon ho;rw[hc] at this;cases this
 ·have e2:r=K:=hon
  omega
 ·have:=hf x hx r hon;omega
end Up
namespace Up
theorem HW.acc{w:World}{f1:List Fact}{g0:List Bx}{tb:Array Value}{g K eb b1 N:Nat}{most:Int}{s0:Sta}{k:Nat}{s:Sta}{W:World}(h:HW w f1 g0 tb g K eb b1 N most s0 [] k s W)(h1:rwF∈f1)(h2:stF∈f1)(hg:w.heap.size≤g)(hg2:g<N) :
  Acc g K b1 most s W (fun s' W'=>HW w f1 g0 tb g K eb b1 N most s0 [] k s' W'):=by
 obtain⟨e1,e2,e3,A,n,c,LA,ln,lc,v,lb,h4,h5,h6,h7,h8⟩:=h
 refine⟨_,_,2,A,n,c,LA,ln,lc,⟨h8,rfl,by simp,by simp,h5,h6,h7⟩,by simp,by simp[h1],by simp[h2],⟨0,rfl,by omega⟩,fun s' W' hgr hc=>?_⟩
 obtain⟨A',n',c',LA',ln',lc',hO⟩:=hc
 refine⟨e1,Nat.le_trans e2 hgr.size,below_gb e3 hgr hg e3.size,A',n',c',LA',ln',lc',v,lb,h4,hO.hl,hO.hN,hO.hA,hO.e.sub (fun x hx=>?_) (List.Sublist.refl _)⟩
 simp only[List.mem_cons] at hx ⊢
 rcases hx with rfl | rfl | rfl | hx<;>simp[*]
theorem HW.box{w:World}{f1:List Fact}{g0:List Bx}{tb:Array Value}{g K eb b1 N:Nat}{most:Int}{s0:Sta}{k:Nat}{s:Sta}{W:World}(h:HW w f1 g0 tb g K eb b1 N most s0 [] k s W)(cs:Array Value)(t:TypeId):HW w f1 g0 tb g K eb b1 N most s0 [(W.heap.size,cs,t)] k s (W.alloc (.cells cs t)):=by
 obtain⟨e1,e2,e3,A,n,c,LA,ln,lc,v,lb,h4,h5,h6,h7,h8⟩:=h
 exact⟨e1,by rw[World.size_alloc];omega,e3.alloc e3.size _,A,n,c,LA,ln,lc,v,lb,h4,h5,h6,h7,h8.boxg t cs _ rfl⟩
theorem lbox_fact{W:World}{fs:List Fact}{gs lb:List Bx}{B:Nat}{LL:Option Addr}{ll cl:Nat}{L:List Fd}(h:EnvF W fs (gs++lb))(hl:LBox B (.slice LL ll cl) L lb)(hn:L.length=ll):EnvF W (fF LL ll L::fs) gs:=by
 have ho:=hl.own h (fun y hy=>List.mem_append_right _ hy)
 subst hn
 have hs:EnvF W fs gs:=h.sub (fun x hx=>hx) (List.sublist_append_left _ _)
 obtain⟨A',c',e,_,_,h3,h4⟩:=ho.form
 cases e
 refine hs.fact h4 (fun k hk=>?_)
 obtain⟨hn,o,e⟩:=hk
 obtain⟨g,eg,_,hg⟩:=h3 _ e
 cases eg
 refine⟨hg,fun y hy e2=>?_⟩
 obtain⟨cs,t,rfl⟩:=hl.block (r:=k) (by rw[e];rfl)
 have hd:=h.d
 rw[List.map_append,List.nodup_append] at hd
 exact hd.2.2 _ (List.mem_map_of_mem hy) k (by simp) e2.symm
theorem LBox.form{B:Nat}{v:Value}{L:List Fd}{lb:List Bx}(h:LBox B v L lb) : ∃LL cl,v = .slice LL L.length cl∧(LL=none→cl=0):=by
 rcases h with ⟨rfl,rfl,rfl⟩ | ⟨g,cap,cur,rfl,rfl,hB,h⟩
 ·exact⟨none,0,rfl,fun _=>rfl⟩
 ·exact⟨_,cap,rfl,fun h=>(by cases h)⟩
def HX(w:World)(eb N:Nat)(s0:Sta)(W:World):Prop:=∃k,okS s0 k∧(aft s0 k).ls≠[]∧qE (aft s0 k)≠0∧EvI w [] [(eb,#[.int .i64 (qE (aft s0 k))],32),(w.heap.size+1,#[.slice none 0 0,.bool false,.int .i64 0,.slice none 0 0],31)] N W
end Up
end Go.Proofs.YtahiajeggbpogaaGreatDoor
