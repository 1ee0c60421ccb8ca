import Derived.Test.YtahiajeggbpogaaGreatDoorUpM
set_option maxRecDepth 100000
set_option maxHeartbeats 4000000
namespace Go.Proofs.YtahiajeggbpogaaGreatDoor
open Go.RowKit Go.Shelf Px Tx Tb Up
set_option linter.unusedVariables false
set_option linter.unusedSimpArgs false
attribute [local go_sem] Oper.semAt_some
namespace Up
def LBox(B:Nat)(v:Value)(L:List Fd)(lb:List Bx):Prop:=
 (v = .slice none 0 0∧L=[]∧lb=[])∨∃g cap cur,v = .slice (some ⟨g,0,none⟩) L.length cap∧lb=[(g,cur,27)]∧B≤g∧∀w:World,w.heap[g]? = some (.cells cur 27)→OwnF w B 27 v L
theorem lbox_of{W:World}{B:Nat}{v:Value}{L:List Fd}(h:OwnF W B 27 v L) : ∃lb,LBox B v L lb∧(∀y∈lb,W.heap[y.1]? = some (.cells y.2.1 y.2.2)∧v.ownBlock=some y.1)∧lb.length≤1:=by
 rcases h.2 with ⟨rfl,h0⟩ | ⟨g,cap,cur,rfl,hBg,hg,rest⟩
 ·exact⟨[],.inl ⟨rfl,List.eq_nil_of_length_eq_zero h0,rfl⟩,fun y hy=>(by cases hy),by simp⟩
 ·exact⟨[(g,cur,27)],.inr ⟨g,cap,cur,rfl,rfl,hBg,fun w hw=>⟨h.1,.inr ⟨g,cap,cur,rfl,hBg,hw,rest⟩⟩⟩,fun y hy=>by rw[List.mem_singleton.1 hy];exact⟨hg,rfl⟩,by simp⟩
theorem LBox.own{W:World}{B:Nat}{v:Value}{L:List Fd}{lb:List Bx}{fs:List Fact}{gs:List Bx}(h:LBox B v L lb)(hE:EnvF W fs gs)(hs : ∀y∈lb,y∈gs):OwnF W B 27 v L:=by
 rcases h with ⟨rfl,rfl,rfl⟩ | ⟨g,cap,cur,rfl,rfl,hB,h⟩
 ·exact OwnF.nil_ _ _ _
 ·exact h W (hE.g _ (hs _ (List.mem_singleton_self _)))
theorem LBox.block{B:Nat}{v:Value}{L:List Fd}{lb:List Bx}(h:LBox B v L lb){r:Nat}(hr:v.ownBlock=some r) : ∃cs t,lb=[(r,cs,t)]:=by
 rcases h with ⟨rfl,rfl,rfl⟩ | ⟨g,cap,cur,rfl,rfl,hB,h⟩
 ·cases hr
 ·have e:some g=some r:=hr
  cases e
  exact⟨_,_,rfl⟩
end Up
theorem EnvF.grow3{W W':World}{fs:List Fact}{gs:List Bx}{row:Option Nat}(h:EnvF W fs gs)(hg:W.grownBy W' row)(hne : ∀r,row=some r→(∀x∈fs,¬x.on r)∧∀y∈gs,y.1≠r):EnvF W' fs gs:=
 ⟨fun x hx=>⟨x.dep W W' (h.f x hx).1 hg.size fun k hk=>hg.block k ((h.f x hx).2 k hk).1 (fun e=>(hne k e.symm).1 x hx hk),fun k hk=>⟨Nat.lt_of_lt_of_le ((h.f x hx).2 k hk).1 hg.size,((h.f x hx).2 k hk).2⟩⟩,
  fun y hy=>(hg.block _ (h.lt hy) (fun e=>(hne _ e.symm).2 y hy rfl)).trans (h.g y hy),h.d⟩
theorem EnvF.snoc{W:World}{fs:List Fact}{gs:List Bx}{y:Bx}(h:EnvF W fs gs)(hr:W.heap[y.1]? = some (.cells y.2.1 y.2.2))(hf : ∀x∈fs,¬x.on y.1)(hg : ∀z∈gs,z.1≠y.1):EnvF W fs (gs++[y]):=by
 refine⟨fun x hx=>⟨(h.f x hx).1,fun k hk=>⟨((h.f x hx).2 k hk).1,fun z hz=>?_⟩⟩,fun z hz=>?_,?_⟩
 ·rcases List.mem_append.1 hz with hz | hz
  ·exact((h.f x hx).2 k hk).2 z hz
  ·rw[List.mem_singleton.1 hz];exact fun e=>hf x hx (e ▸ hk)
 ·rcases List.mem_append.1 hz with hz | hz
  ·exact h.g z hz
  ·rw[List.mem_singleton.1 hz];exact hr
 ·rw[List.map_append,List.nodup_append]
  refine⟨h.d,by simp,fun a ha b hb=>?_⟩
  obtain⟨z,hz,rfl⟩:=List.mem_map.1 ha
  simp only[List.map_cons,List.map_nil,List.mem_singleton] at hb
  rw[hb]
  exact hg z hz
theorem Up.lbox_append{W W':World}{fs:List Fact}{gs lb:List Bx}{B:Nat}{v v':Value}{L L':List Fd}(h:EnvF W fs (gs++lb))(hl:LBox B v L lb)(ho:OwnF W' B 27 v' L')(hg:W.grownBy W' v.ownBlock)(hv:v'.ownBlock=v.ownBlock∨v'.ownBlock=some W.heap.size) :
  ∃lb',LBox B v' L' lb'∧EnvF W' fs (gs++lb'):=by
 have hsub:EnvF W fs gs:=h.sub (fun x hx=>hx) (List.sublist_append_left _ _)
 have hne : ∀r,v.ownBlock=some r→(∀x∈fs,¬x.on r)∧∀y∈gs,y.1≠r:=fun r hr=>by
  obtain⟨cs,t,rfl⟩:=hl.block hr
  refine⟨fun x hx hk=>((h.f x hx).2 r hk).2 _ (List.mem_append_right _ (List.mem_singleton_self _)) rfl,fun y hy e=>?_⟩
  have hd:=h.d
  rw[List.map_append,List.nodup_append] at hd
  exact hd.2.2 _ (List.mem_map_of_mem hy) r (by simp) e
 have h1:=hsub.grow3 hg hne
 obtain⟨lb',hl',hb',hlen⟩:=lbox_of ho
 refine⟨lb',hl',?_⟩
 match lb',hlen,hb' with
 | [],_,_=>rw[List.append_nil];exact h1
 | [y],_,hb'=>
  obtain⟨hr,hy⟩:=hb' y (List.mem_singleton_self _)
  rw[hy] at hv
  refine h1.snoc hr ?_ ?_
  ·intro x hx hk
   rcases hv with hv | hv
   ·exact(hne _ hv.symm).1 x hx hk
   ·have hy1:y.1=W.heap.size:=Option.some.inj hv
    have:=((hsub.f x hx).2 _ hk).1
    omega
  ·intro z hz e
   rcases hv with hv | hv
   ·exact(hne _ hv.symm).2 z hz e
   ·have hy1:y.1=W.heap.size:=Option.some.inj hv
    have:=hsub.lt hz
    omega
theorem EnvF.grow2{A B:World}{fs:List Fact}{gs:List Bx}{row:Option Nat}(h:EnvF A fs gs)(hg:A.grownBy B row)(hr : ∀r,row=some r→∃o:Obj,A.heap[r]? = some o∧o.isCells=false)(hf : ∀x∈fs,∀r,row=some r→¬x.on r):EnvF B fs gs:=
 h.grow3 hg fun r e=>⟨fun x hx=>hf x hx r e,fun y hy he=>by
  obtain⟨o,ho,hc⟩:=hr r e
  have:=h.g y hy
  rw[he,ho] at this
  cases this
  cases hc⟩
theorem EnvF.setCell1{w:World}{fs:List Fact}{gs:List Bx}(h:EnvF w fs gs)(i:Nat){g j:Nat}{old:Array Value}{t:TypeId}(hi:gs[i]? = some (g,old,t))(v:Value){cs:Array Value}(hcs:old.setIfInBounds j v=cs):EnvF (w.setCell ⟨g,j,none⟩ v) fs (gs.set i (g,cs,t)):=by
 subst hcs
 exact h.turn i hi (Go.heap_setCell_same w g j old t v (h.row i hi)) (fun k hk=>Go.heap_setCell_other w ⟨g,j,none⟩ k v hk) (by simp)
theorem keepsFrom_setCell1{W:World}{g j:Nat}{old:Array Value}{t:TypeId}(hg:W.heap[g]? = some (.cells old t))(v:Value)(B:Nat):KeepsFrom B W (W.setCell ⟨g,j,none⟩ v):=
 ⟨by simp,fun k o _ hk ho=>by
  have hne:k≠g:=fun e=>by subst e;rw[hg] at hk;cases hk;cases ho
  exact(Go.heap_setCell_other W ⟨g,j,none⟩ k v hne).trans hk⟩
theorem wpListIn_append_flds2{F:Fence}{fu:Nat}{P:Program}(w:World){ops:Array Oper}{rest:List Oper}{o:Oper}{a:Act}{Q:Exit→Act→World→Prop}(hgd:o.guard=none)(s x:Operand)(t:TypeId)
  (ho:o.op = .call { callee:=.builtin .append,args:=#[s,x],argTypes:=#[t,t] })
  (base:Nat) (e:TypeId) (i:TypeInfo) (ht:P.underlying t=some (.slice e)) (hi:P.info? e=some i) (hz:i.zero=some (.agg #[.string ⟨#[]⟩,.string ⟨#[]⟩])) (hsize:i.size=2) (hby:i.bytes=32)
  (v:Value) (ys:List Fd) (hs:a.eval s=v) (hown:OwnF w base e v ys)
  (B:Nat) (A:Option Addr) (m c:Nat) (xs:List Fd) (hx:a.eval x = .slice A m c) (hr:Fs w B A m xs) (hnone:A=none→c=0)
  (hlen:ys.length+m≤1000000) (hbase:base≤w.heap.size)
  (h : ∀v' w',OwnF w' base e v' (ys++xs)→Below base w w'→w.grownBy w' v.ownBlock→(v'.ownBlock=v.ownBlock∨v'.ownBlock=some w.heap.size)→wpListIn F fu P ops Q rest (a.put o.dst v') w'):wpListIn F fu P ops Q (o::rest) a w:=by
 refine wpListIn_plain hgd fun K hK=>?_
 obtain⟨v',w',hrun,h2,h3,h5⟩:=run_append_flds (P:=P) w base t o.type e i ht hi hz hsize hby v ys hown B A m c xs hr hnone hlen hbase
 unfold Oper.wpIn
 refine⟨?_,?_⟩
 ·simp[Oper.about,ho,resolve,Target.leads,Sem.run_pure]
 ·rw[Oper.semAt_plain F _ _ (by rw[ho];intro c hc';cases hc')]
  simp[execOp,ho,resolve,invoke,builtin,hs,hx,hrun,Result.andThen]
  exact hK _ _ (h v' w' h2 ((Below.refl base w).grown h3 hbase (fun k hk=>(World.ownsRow.lt hown k hk).1)) h3 h5)
theorem keepsFrom_grown{W W':World}{row:Option Nat}(hg:W.grownBy W' row)(hr : ∀r,row=some r→∃o:Obj,W.heap[r]? = some o∧o.isCells=true)(B:Nat):KeepsFrom B W W':=
 ⟨hg.size,fun k o _ hk ho=>(hg.block k (Array.getElem?_eq_some_iff.1 hk).1 (fun e=>by
  obtain⟨o2,h2,h3⟩:=hr k e.symm
  rw[hk] at h2
  cases h2
  rw[ho] at h3
  cases h3)).trans hk⟩
theorem fF_cells{W:World}{A:Option Addr}{n:Nat}{xs:List Fd}(h:Fs W W.heap.size A n xs){r:Nat}(hr:(fF A n xs).on r){o:Obj}(ho:W.heap[r]? = some o):o.isCells=true:=by
 obtain⟨hn,q,e⟩:=hr
 obtain⟨b,o2,e2,_,hc⟩:=fs_cell h hn
 rw[e] at e2
 cases e2
 obtain⟨x,_,h1,_⟩:=hc 0 hn
 obtain⟨o3,h3,h4⟩:=cells_of_cell h1
 rw[ho] at h3
 cases h3
 exact h4
theorem bF_cells{W:World}{A:Option Addr}{n:Nat}{xs:List UInt8}(h:Bs W W.heap.size A n xs){r:Nat}(hr:(bF A n xs).on r){o:Obj}(ho:W.heap[r]? = some o):o.isCells=true:=by
 obtain⟨hn,q,e⟩:=hr
 obtain⟨b,o2,e2,_,hc⟩:=bs_cell h hn
 rw[e] at e2
 cases e2
 obtain⟨x,_,h1⟩:=hc 0 hn
 obtain⟨o3,h3,h4⟩:=cells_of_cell h1
 rw[ho] at h3
 cases h3
 exact h4
namespace Up
def HW(w:World)(f1:List Fact)(g0:List Bx)(tb:Array Value)(g K eb b1 N:Nat)(most:Int)(s0:Sta)(ex:List Bx)(k:Nat)(s:Sta)(W:World):Prop:=
 okS s0 k∧N≤W.heap.size∧Below w.heap.size w W∧∃A n c LA ln lc v lb,LBox w.heap.size v (keep 2000 (FL s0 k)) lb∧ln≤lc∧(LA=none→lc=0)∧(A=none→c=0)∧
  EnvF W (fF A n s.xs::bF LA ln s.ls::kF K::f1) (ex++((b1,#[.pointer (some ⟨g,0,none⟩)],55)::(eb,#[.int .i64 0],32)::(g,rdc K most s.M A n c LA ln lc,64)::(w.heap.size+1+1+1,#[.int .i64 (full (FL s0 k):Int)],3)::(w.heap.size+1+1,#[v,.bool (decide (2000<full (FL s0 k))),.int .i64 0,.slice none 0 0],31)::(w.heap.size+1,#[.slice none 0 0,.bool false,.int .i64 0,.slice none 0 0],31)::(w.heap.size,tb,24)::(g0++lb)))
theorem HW.grow{w:World}{f1:List Fact}{g0:List Bx}{tb:Array Value}{g K eb b1 N:Nat}{most:Int}{s0:Sta}{ex:List Bx}{k:Nat}{s:Sta}{W W':World}{row:Option Nat}(h:HW w f1 g0 tb g K eb b1 N most s0 ex k s W)(hg:W.grownBy W' row)
  (hr : ∀r,row=some r→N≤r∧∃o:Obj,W.heap[r]? = some o∧o.isCells=false) (hK:K<N) (hf : ∀x∈f1,∀k,x.on k→k<N) (hw:w.heap.size≤N):HW w f1 g0 tb g K eb b1 N most s0 ex k s W':=by
 obtain⟨h1,h2,h3,A,n,c,LA,ln,lc,v,lb,h4,h5,h6,h7,h8⟩:=h
 refine⟨h1,Nat.le_trans h2 hg.size,⟨hg.os.trans h3.os,hg.tape.trans h3.tape,hg.output.trans h3.output,Nat.le_trans h3.size hg.size,fun j hj=>(hg.block j (Nat.lt_of_lt_of_le hj h3.size) (fun e=>by have:=(hr j e.symm).1;omega)).trans (h3.block j hj)⟩,A,n,c,LA,ln,lc,v,lb,h4,h5,h6,h7,?_⟩
 refine h8.grow2 hg (fun r e=>(hr r e).2) (fun x hx r e hon=>?_)
 obtain⟨hN,o,ho,hc⟩:=hr r e
 simp only[List.mem_cons] at hx
 rcases hx with rfl | rfl | rfl | hx
 ·have:=fF_cells (h8.fs (by simp)) hon ho;rw[hc] at this;cases this
 ·have:=bF_cells (h8.bs (by simp)) hon ho;rw[hc] at this;cases this
 ·have e2:r=K:=hon
  omega
 ·have:=hf x hx r hon;omega
end Up
namespace Up
theorem HW.acc{w:World}{f1:List Fact}{g0:List Bx}{tb:Array Value}{g K eb b1 N:Nat}{most:Int}{s0:Sta}{k:Nat}{s:Sta}{W:World}(h:HW w f1 g0 tb g K eb b1 N most s0 [] k s W)(h1:rwF∈f1)(h2:stF∈f1)(hg:w.heap.size≤g)(hg2:g<N) :
  Acc g K b1 most s W (fun s' W'=>HW w f1 g0 tb g K eb b1 N most s0 [] k s' W'):=by
 obtain⟨e1,e2,e3,A,n,c,LA,ln,lc,v,lb,h4,h5,h6,h7,h8⟩:=h
 refine⟨_,_,2,A,n,c,LA,ln,lc,⟨h8,rfl,by simp,by simp,h5,h6,h7⟩,by simp,by simp[h1],by simp[h2],⟨0,rfl,by omega⟩,fun s' W' hgr hc=>?_⟩
 obtain⟨A',n',c',LA',ln',lc',hO⟩:=hc
 refine⟨e1,Nat.le_trans e2 hgr.size,below_gb e3 hgr hg e3.size,A',n',c',LA',ln',lc',v,lb,h4,hO.hl,hO.hN,hO.hA,hO.e.sub (fun x hx=>?_) (List.Sublist.refl _)⟩
 simp only[List.mem_cons] at hx ⊢
 rcases hx with rfl | rfl | rfl | hx<;>simp[*]
theorem HW.box{w:World}{f1:List Fact}{g0:List Bx}{tb:Array Value}{g K eb b1 N:Nat}{most:Int}{s0:Sta}{k:Nat}{s:Sta}{W:World}(h:HW w f1 g0 tb g K eb b1 N most s0 [] k s W)(cs:Array Value)(t:TypeId):HW w f1 g0 tb g K eb b1 N most s0 [(W.heap.size,cs,t)] k s (W.alloc (.cells cs t)):=by
 obtain⟨e1,e2,e3,A,n,c,LA,ln,lc,v,lb,h4,h5,h6,h7,h8⟩:=h
 exact⟨e1,by rw[World.size_alloc];omega,e3.alloc e3.size _,A,n,c,LA,ln,lc,v,lb,h4,h5,h6,h7,h8.boxg t cs _ rfl⟩
theorem lbox_fact{W:World}{fs:List Fact}{gs lb:List Bx}{B:Nat}{LL:Option Addr}{ll cl:Nat}{L:List Fd}(h:EnvF W fs (gs++lb))(hl:LBox B (.slice LL ll cl) L lb)(hn:L.length=ll):EnvF W (fF LL ll L::fs) gs:=by
 have ho:=hl.own h (fun y hy=>List.mem_append_right _ hy)
 subst hn
 have hs:EnvF W fs gs:=h.sub (fun x hx=>hx) (List.sublist_append_left _ _)
 obtain⟨A',c',e,_,_,h3,h4⟩:=ho.form
 cases e
 refine hs.fact h4 (fun k hk=>?_)
 obtain⟨hn,o,e⟩:=hk
 obtain⟨g,eg,_,hg⟩:=h3 _ e
 cases eg
 refine⟨hg,fun y hy e2=>?_⟩
 obtain⟨cs,t,rfl⟩:=hl.block (r:=k) (by rw[e];rfl)
 have hd:=h.d
 rw[List.map_append,List.nodup_append] at hd
 exact hd.2.2 _ (List.mem_map_of_mem hy) k (by simp) e2.symm
theorem LBox.form{B:Nat}{v:Value}{L:List Fd}{lb:List Bx}(h:LBox B v L lb) : ∃LL cl,v = .slice LL L.length cl∧(LL=none→cl=0):=by
 rcases h with ⟨rfl,rfl,rfl⟩ | ⟨g,cap,cur,rfl,rfl,hB,h⟩
 ·exact⟨none,0,rfl,fun _=>rfl⟩
 ·exact⟨_,cap,rfl,fun h=>(by cases h)⟩
theorem env_grow{W W':World}{A:Option Addr}{n:Nat}{xs:List Fd}{LA:Option Addr}{ln:Nat}{ls:List UInt8}{K N:Nat}{f1:List Fact}{gs:List Bx}{row:Option Nat}(h8:EnvF W (fF A n xs::bF LA ln ls::kF K::f1) gs)(hg:W.grownBy W' row)
  (hr : ∀r,row=some r→N≤r∧∃o:Obj,W.heap[r]? = some o∧o.isCells=false) (hK:K<N) (hf : ∀x∈f1,∀k,x.on k→k<N):EnvF W' (fF A n xs::bF LA ln ls::kF K::f1) gs:=by
 refine h8.grow2 hg (fun r e=>(hr r e).2) (fun x hx r e hon=>?_)
 obtain⟨hN,o,ho,hc⟩:=hr r e
 simp only[List.mem_cons] at hx
 rcases hx with rfl | rfl | rfl | hx
 ·have:=fF_cells (h8.fs (by simp)) hon ho;rw[hc] at this;cases this
 ·have:=bF_cells (h8.bs (by simp)) hon ho;rw[hc] at this;cases this
 ·have e2:r=K:=hon
  omega
 ·have:=hf x hx r hon;omega
def HX(w:World)(eb N:Nat)(s0:Sta)(W:World):Prop:=∃k,okS s0 k∧(aft s0 k).ls≠[]∧qE (aft s0 k)≠0∧EvI w [] [(eb,#[.int .i64 (qE (aft s0 k))],32),(w.heap.size+1,#[.slice none 0 0,.bool false,.int .i64 0,.slice none 0 0],31)] N W
end Up
theorem wpIn_to{F:Fence}{n:Nat}{P:Program}{c:Code}{K:Act→World→Prop}{Q:Exit→Act→World→Prop}{a:Act}{w:World}(R:Act→World→Prop)(h:c.wpIn F n P (Exit.then R fun _ _ _=>False) a w)(k : ∀a w,R a w→K a w):c.wpIn F n P (Exit.then K Q) a w:=
 wpIn_mono h (fun e a w h=>by
  cases e with
  | normal=>exact k _ _ h
  | _=>exact h.elim)
theorem u_Block_go{fs:List Fact}{gs:List Bx}{M most:Int}{A:Option Addr}{n c:Nat}{xs:List Fd}{LA:Option Addr}{ln lc:Nat}{ls:List UInt8}(w:World)(hV:EnvF w fs gs)(hL:bF LA ln ls∈fs)(hlc:ln≤lc)(hLN:LA=none→lc=0)(hA:fF A n xs∈fs)(hN:A=none→c=0)(hS:stF∈fs)(hR:rwF∈fs)(hM:mvF∈fs)(hF:full xs≤20000)(hn:ln≤10000)(h:okA M most xs=true)(s0:Sta)(hs0:(bZ most ⟨M,xs,ls⟩).2=s0)(hz:(bZ most ⟨M,xs,ls⟩).1=0) :
  Calls Tryz.prog 8 #[.agg #[.int .i64 M,.slice A n c],.int .i64 most,.slice LA ln lc] w fun e w'=>((∃k,okS s0 k∧(aft s0 k).ls≠[]∧qE (aft s0 k)≠0∧e = .returned (.tuple #[.agg #[.slice none 0 0,.bool false,.int .i64 0,.slice none 0 0],.int .i64 (qE (aft s0 k))])∧Below w.heap.size w w')∨(∃k LL cl TT tc,okS s0 k∧(aft s0 k).ls=[]∧e = .returned (.tuple #[.agg #[.slice LL (keep 2000 (FL s0 k)).length cl,.bool (decide (2000<full (FL s0 k))),.int .i64 (aft s0 k).M,.slice TT (aft s0 k).xs.length tc],.int .i64 0])∧Below w.heap.size w w'∧EnvF w' (fF LL (keep 2000 (FL s0 k)).length (keep 2000 (FL s0 k))::fF TT (aft s0 k).xs.length (aft s0 k).xs::fs) gs∧(LL=none→cl=0)∧(TT=none→tc=0))):=by
 have K0:=Lib.hid (((((hV).boxg 24 #[.int .i64 M,.slice A n c] w.heap.size rfl).boxg 31 #[.slice none 0 0,.bool false,.int .i64 0,.slice none 0 0] (w.heap.size+1) (by simp)).boxg 31 #[.slice none 0 0,.bool false,.int .i64 0,.slice none 0 0] (w.heap.size+1+1) (by simp)).boxg 3 #[.int .i64 0] (w.heap.size+1+1+1) (by simp))
 have G0:=Lib.hid ((((((Below.refl w.heap.size w)).alloc (Nat.le_refl _) (.cells #[.int .i64 M,.slice A n c] 24)).alloc (by simp) (.cells #[.slice none 0 0,.bool false,.int .i64 0,.slice none 0 0] 31)).alloc (by simp;omega) (.cells #[.slice none 0 0,.bool false,.int .i64 0,.slice none 0 0] 31)).alloc (by simp;omega) (.cells #[.int .i64 0] 3))
 have HN:=Lib.hid hN
 have HA:=Lib.hid hA
 have HL:=Lib.hid hL
 have HM:=Lib.hid hM
 have HS:=Lib.hid hS
 have HR:=Lib.hid hR
 have HLC:=Lib.hid hlc
 have HLN:=Lib.hid hLN
 have HLN0:=Lib.hid (hV.bs hL).1
 have HS0:=Lib.hid hs0
 have h3:((0:Int) != 0)=false:=rfl
 clear hV hL hlc hLN hA hN hS hR hM
 clear hs0
 refine(callsIn_wide (n:=6)).1 (callsIn_of_wp_marks Tryz.func8 rfl trivial ?_ rfl)
 refine wpIn_wide.2 ?_
 simp only[Tryz.ntmps8,List.size_toArray,List.length_cons,List.length_nil,Nat.reduceAdd,Nat.reduceSub,Array.replicate_succ,Array.replicate_zero,List.push_toArray,List.append_toArray,List.nil_append,List.cons_append]
 go_wp2
 refine wp_scope_forward 0 rfl ?_
 go_wp2_with (first
  | go_skip
  | (refine at_store 3 (.tmp 9) (.const (.int .i64 0)) (by rfl) ?_;refine wpList_put (by rfl) 3 (.tmp 9) (.const (.int .i64 0)) (by rfl) (w.heap.size+1+1+1) 0 (.int .i64 0) (by rfl) (by rfl) 3 #[.int .i64 0] #[.int .i64 0] (K0.out.row 0 rfl) (by simp[Value.cells]) (by kernel_rfl) infoc_i (by kernel_rfl) ?_;intro w1 hrow hoth hz hbl;have K1:=Lib.hid (K0.out.turn 0 rfl hrow hoth hz);have G1:Hid (Below w.heap.size w w1):=Lib.hid (hbl _ _ (by omega) G0.out);clear hrow hoth hz hbl K0 G0)
  | (refine at_load 24 (.tmp 3) (by rfl) ?_;refine wpListG_row (by rfl) 24 (.tmp 3) (by rfl) w.heap.size (by rfl) 24 #[.int .i64 M,.slice A n c] _ (K1.out.row 3 rfl) Tryz.underlying24 (by rfl) infoc_T ?_)
  | (go_at_call 39;(with_reducible refine(u_start_yes LA ln lc _ K1.out HA.out HM.out HN.out (by omega) h).mono ?_);rintro e w2 ⟨g,K,A1,c1,rfl,hb,hE,hA1,hg⟩;have hgw:w.heap.size≤g:=Nat.le_trans G1.out.size hg;have K2:=Lib.hid hE;have HA1:=Lib.hid hA1;have G2:Hid (Below w.heap.size w w2):=Lib.hid (below_step G1.out hb);clear hb hE hA1 hg K1 G1;have K2b:=Lib.hid (K2.out.boxg 32 #[.int .i64 0] w2.heap.size rfl);have hz2:w.heap.size≤w2.heap.size:=G2.out.size;have G2b:=Lib.hid (G2.out.alloc hz2 (.cells #[.int .i64 0] 32));clear K2 G2)
  | (refine at_store 32 (.tmp 11) (.tmp 20) (by rfl) ?_;refine wpList_put (by rfl) 32 (.tmp 11) (.tmp 20) (by rfl) w2.heap.size 0 (.int .i64 0) (by rfl) (by rfl) 32 #[.int .i64 0] #[.int .i64 0] (K2b.out.row 0 rfl) (by simp[Value.cells]) (by kernel_rfl) infoc_E (by kernel_rfl) ?_;intro w3 hrow hoth hz hbl;have K3:=Lib.hid (K2b.out.turn 0 rfl hrow hoth hz);have G3:Hid (Below w.heap.size w w3):=Lib.hid (hbl _ _ (by omega) G2b.out);clear hrow hoth hz hbl K2b G2b)
  | (refine at_load 32 (.tmp 11) (by rfl) ?_;refine wpListG_get (by rfl) 32 (.tmp 11) (by rfl) w2.heap.size 0 (by rfl) 32 #[.int .i64 0] (.int .i64 0) _ (K3.out.row 0 rfl) (by rfl) Tryz.underlying32 (by rfl) ?_)
  | (go_at_call 40;(with_reducible refine(u_sizes (s:=⟨M,xs,ls⟩) (i:=1) _ ⟨K3.out,rfl,List.Mem.tail _ (List.mem_cons_self ..),by simp[HL.out],HLC.out,HLN.out,HA1.out⟩ (List.mem_cons_self ..) hn (by simp only;omega)).mono ?_);rintro e w4 ⟨rfl,hg,A2,n2,c2,LA2,ln2,lc2,hk⟩;have KO:=Lib.hid hk;have K4:=Lib.hid hk.e;have G4:Hid (Below w.heap.size w w4):=Lib.hid (below_gb G3.out hg hgw G3.out.size);clear hg hk K3 G3)
  | (refine at_store 32 (.tmp 11) (.tmp 24) (by rfl) ?_;refine wpList_put (by rfl) 32 (.tmp 11) (.tmp 24) (by rfl) w2.heap.size 0 (.int .i64 0) (by rfl) (by rfl) 32 #[.int .i64 0] #[.int .i64 0] (K4.out.row 0 rfl) (by simp[Value.cells]) (by kernel_rfl) infoc_E (by kernel_rfl) ?_;intro w5 hrow hoth hz hbl;have K5:=Lib.hid (K4.out.turn 0 rfl hrow hoth hz);have G5:Hid (Below w.heap.size w w5):=Lib.hid (hbl _ _ (by omega) G4.out);clear hrow hoth hz hbl K4 G4)
  | (refine at_load 32 (.tmp 11) (by rfl) ?_;refine wpListG_get (by rfl) 32 (.tmp 11) (by rfl) w2.heap.size 0 (by rfl) 32 #[.int .i64 0] (.int .i64 0) _ (K5.out.row 0 rfl) (by rfl) Tryz.underlying32 (by rfl) ?_)
  | (go_at_call 41;(with_reducible refine(u_fields g _).mono ?_);rintro e w6 ⟨rfl,rfl⟩))
 obtain⟨eb,heb⟩ : ∃eb,w2.heap.size=eb:=⟨_,rfl⟩
 have hs0:=HS0.out
 obtain⟨b1,hb1⟩ : ∃b1,w5.heap.size=b1:=⟨_,rfl⟩
 obtain⟨Ws,hWs⟩ : ∃Ws,w5.alloc (.cells #[.pointer (some ⟨g,0,none⟩)] 55)=Ws:=⟨_,rfl⟩
 have hz5:Ws.heap.size=b1+1:=by rw[←hWs,←hb1];simp
 obtain⟨N,hN⟩ : ∃N,b1+1=N:=⟨_,rfl⟩
 have E6:=K5.out.boxg 55 #[.pointer (some ⟨g,0,none⟩)] w5.heap.size rfl
 have B6:=G5.out.alloc G5.out.size (.cells #[.pointer (some ⟨g,0,none⟩)] 55)
 have hgN:g<N:=by have:=K5.out.lt (y:=(g,_,_)) (List.Mem.tail _ (List.mem_cons_self ..));simp only at this;omega
 have hKN:K<N:=by have:=(K5.out.f (kF K) (by simp)).2 K rfl;omega
 have hfN : ∀x∈fs,∀k,x.on k→k<N:=fun x hx k hk=>by have:=(K5.out.f x (by simp[hx])).2 k hk;omega
 have hwN:w.heap.size+4≤N:=by have:=K5.out.lt (y:=(w.heap.size+1+1+1,_,_)) (List.Mem.tail _ (List.Mem.tail _ (List.mem_cons_self ..)));simp only at this;omega
 have heg:w.heap.size≤eb:=by have:=K5.out.ne 0 1 rfl rfl (by omega);rw[←heb];exact hz2
 have heN:eb<N:=by have:=K5.out.lt (y:=(w2.heap.size,_,_)) (List.mem_cons_self ..);simp only at this;omega
 rw[hs0] at KO
 have hHW0:HW w fs gs #[.int .i64 M,.slice A n c] g K eb b1 N most s0 [] 0 s0 Ws:=by
  refine⟨fun j hj=>absurd hj (by omega),by omega,hWs ▸ B6,A2,n2,c2,LA2,ln2,lc2,.slice none 0 0,[],.inl ⟨rfl,rfl,rfl⟩,KO.out.hl,KO.out.hN,KO.out.hA,?_⟩
  rw[←hWs]
  subst heb hb1 hs0
  rw[List.append_nil]
  exact E6.sub (fun x hx=>by
   simp only[List.mem_cons] at hx ⊢
   rcases hx with rfl | rfl | rfl | hx<;>simp[*]) (List.Sublist.refl _)
 have HHW0:=Lib.hid hHW0
 have hrt0:rt s0:=by
  rw[←hs0]
  unfold okA okB at h
  simp only[Bool.and_eq_true,decide_eq_true_eq] at h
  exact zs_rt h.2.2 _ _ h.1
 have hl0:s0.ls.length≤10000:=by have h1:=zs_less (most:=most) ls.length ⟨M,xs,ls⟩;have h2:=HLN0.out;rw[←hs0];unfold bZ;simp only at h1 h2 ⊢;omega
 have HRT:=Lib.hid hrt0
 clear hHW0 hrt0 E6 B6 K5 G5 KO hz
 subst hb1
 rw[hWs]
 rw[heb]
 clear hWs heb hs0
 obtain⟨b1,hb1⟩ : ∃b1,w5.heap.size=b1:=⟨_,rfl⟩
 rw[hb1] at hN HHW0 hz5 ⊢
 clear hb1
 refine(wpIn_wide (n:=6)).1 ?_
 refine wpIn_rangeFunc_joint rfl (by omega) (gf:=62) (lb:=#[.pointer (some ⟨b1,0,none⟩)]) rfl trivial (enters_of Tryz.func62 (by kernel_rfl) rfl)
  (V:=fun pre s x s'=>s=aft s0 pre.length∧okS s0 pre.length∧s.ls≠[]∧x=(qF s,qE s)∧s'=qS s) (S:=fun xs s=>s=aft s0 xs.length∧((okS s0 xs.length∧s.ls=[])∨∃q,xs.length=q+1∧okS s0 q∧(aft s0 q).ls≠[]∧qE (aft s0 q)≠0)) (Sp:=fun _=>True) (s0:=s0) (encs:=fE)
  (fun pre s W=>HW w fs gs #[.int .i64 M,.slice A n c] g K eb b1 N most s0 [] pre.length s W)
  (fun cd _ W=>cd = .goto 0∧HX w eb N s0 W)
  (fun l J X W hJI hJB hY hJ0=>fields1_in 5 (by omega) l g K b1 most s0 _ J X W hJI hJB (fun pre W h _=>h.acc HR.out HS.out hgw hgN) (fun k hk=>⟨by have:=okS_less hk;omega,by have:=rt_bd (aft_rt HRT.out k);omega⟩) hY hJ0)
  (fun _=>rfl)
  (fun q A B row h hg hr=>h.grow hg (fun r e=>⟨by have:=(hr r e).1;omega,(hr r e).2⟩) hKN hfN (by omega))
  (fun cd pre A B row h hg hr=>by obtain⟨h0,k,h1,h2,h3,h4⟩:=h;exact⟨h0,k,h1,h2,h3,h4.grow hg (fun r e=>by have:=(hr r e).1;omega)⟩)
  HHW0.out
  (fun pre s' x a' W=>∃fb,a'={ tmps:=#[.agg #[.int .i64 M,.slice A n c],.int .i64 most,.slice LA ln lc,.pointer (some ⟨w.heap.size,0,none⟩),undef,undef,.pointer (some ⟨w.heap.size+1,0,none⟩),.int .i64 0,.pointer (some ⟨w.heap.size+1+1,0,none⟩),.pointer (some ⟨w.heap.size+1+1+1,0,none⟩),.pointer (some ⟨g,0,none⟩),.pointer (some ⟨eb,0,none⟩),.pointer (some ⟨fb,0,none⟩),.int .i64 x.2,.tuple #[.pointer (some ⟨g,0,none⟩),.int .i64 0],.agg #[.int .i64 M,.slice A n c],.int .i64 most,.slice LA ln lc,.tuple #[.pointer (some ⟨g,0,none⟩),.int .i64 0],.pointer (some ⟨g,0,none⟩),.int .i64 0,.int .i64 0,.bool false,.pointer (some ⟨g,0,none⟩),.int .i64 0,.int .i64 0,.bool false,.pointer (some ⟨g,0,none⟩),.func (.func 62) #[] #[.pointer (some ⟨b1,0,none⟩)],.agg #[.string x.1.1,.string x.1.2],.int .i64 x.2,undef,undef,undef,undef,undef,undef,undef,undef,undef,undef,undef,undef,undef,undef,undef,undef,undef,undef,undef,undef,undef,undef,undef,undef,undef,undef,undef],defers:=[] }∧HW w fs gs #[.int .i64 M,.slice A n c] g K eb b1 N most s0 [(fb,#[.string x.1.1,.string x.1.2],27)] pre.length s' W∧(aft s0 pre.length).ls≠[]∧x=(qF (aft s0 pre.length),qE (aft s0 pre.length))∧s'=qS (aft s0 pre.length))
  (fun pre s x a' _ A B row h hg hr=>by obtain⟨fb,h1,h2,h3⟩:=h;exact⟨fb,h1,h2.grow hg (fun r e=>⟨by have:=(hr r e).1;omega,(hr r e).2⟩) hKN hfN (by omega),h3⟩)
  ?assign ?body ?done ?stop
 case assign=>
  rintro l pre s x s' W KK hI ⟨rfl,hok,hl,hx,rfl⟩ hK
  have HI:=Lib.hid hI
  have HK:=Lib.hid hK
  have HXX:=Lib.hid hx
  clear hI hK hx
  unfold fE
  gi_wp2
  exact HK.out _ _ (keepsFrom_below ((Below.refl _ W).alloc (Nat.le_refl _) _) _) ⟨W.heap.size,rfl,HI.out.box _ _,hl,HXX.out,by trivial⟩
 case body=>
  rintro l pre s' x a' W hll ⟨fb,rfl,hW,hl,hx,rfl⟩
  obtain⟨k,hk⟩ : ∃k,pre.length=k:=⟨_,rfl⟩
  have hk1:(pre++[x]).length=k+1:=by rw[List.length_append,hk];rfl
  rw[hk] at hW hl hx ⊢
  have HK1:=Lib.hid hk1
  obtain⟨⟨f1,f2⟩,E⟩:=x
  have hf12:qF (aft s0 k)=(f1,f2):=(congrArg Prod.fst hx).symm
  have hEE:qE (aft s0 k)=E:=(congrArg Prod.snd hx).symm
  obtain⟨hok,hN2,hbw,A3,n3,c3,LA3,ln3,lc3,v,lb,hLB,hl5,hl6,hl7,hE8⟩:=hW
  simp only[List.cons_append,List.nil_append] at hE8 ⊢
  have HE8:=Lib.hid hE8
  have HBW:=Lib.hid hbw
  have HLB:=Lib.hid hLB
  have HOK:=Lib.hid hok
  have HF12:=Lib.hid hf12
  have HEE:=Lib.hid hEE
  have HLL:=Lib.hid hl
  clear hk hk1 hx hf12 hEE hbw hLB hok hl
  by_cases hE:E=0
  ·have hp:qE (aft s0 k)=0:=HEE.out.trans hE
   subst hE
   have hdec:((0:Int) != 0)=false:=rfl
   have hok1:okS s0 (k+1):=by
    intro j hj
    rcases Nat.lt_or_ge j k with h9 | h9
    ·exact HOK.out j h9
    ·obtain rfl:j=k:=by omega
     exact⟨HLL.out,hp⟩
   have hFB:=FL_full HRT.out hl0 (k+1) hok1
   have hLN1:=okS_less hok1
   have hFs:=FL_succ s0 k
   have hFf:full (FL s0 (k+1))=full (FL s0 k)+sz (f1,f2):=by rw[hFs,full_append,HF12.out];first | rfl | (simp only[full];omega) | (simp only[full];done)
   have hAft:aft s0 (k+1)=qS (aft s0 k):=rfl
   have HOK1:=Lib.hid hok1
   have HFS:=Lib.hid hFs
   have HAFT:=Lib.hid hAft
   clear hok1 hFs hAft hp
   obtain⟨F,hF⟩ : ∃F,full (FL s0 (k+1))=F:=⟨_,rfl⟩
   rw[hF] at hFB hFf
   have HFB:=Lib.hid hFB
   have HFF:=Lib.hid hFf
   obtain⟨F0,hF0⟩ : ∃F0,full (FL s0 k)=F0:=⟨_,rfl⟩
   rw[hF0] at HE8 HFF hFf
   have HF0:=Lib.hid hF0
   have HFx:=Lib.hid hF
   obtain⟨z1,hz1⟩ : ∃z1,sz (f1,f2)=z1:=⟨_,rfl⟩
   have HZ1:=Lib.hid hz1
   rw[hz1] at hFf
   have hwrap:(IntKind.wrap .i64 ((F0:Int)+(z1:Int)))=(F:Int):=by rw[IntWalk.i64_in _ (by omega)];omega
   have HTS:Hid (∀w:World,Calls Tryz.prog 42 #[.agg #[.string f1,.string f2]] w fun e w'=>e = .returned (.int .i64 (z1:Int))∧Below w.heap.size w w'):=Lib.hid (by
    subst hz1
    exact fun w=>t_size (f1,f2) w (by omega))
   have HNF:=Lib.hid (⟨hF0,hF,hz1,hFf⟩:_∧_∧_∧_)
   clear hE8 hF0 hF hz1 hFf hFB
   gi_wp2
   refine wpIn_to (fun a W'=>∃(v34 v35 v36 v37:Value),a={ tmps:=#[.agg #[.int .i64 M,.slice A n c],.int .i64 most,.slice LA ln lc,.pointer (some ⟨w.heap.size,0,none⟩),undef,undef,.pointer (some ⟨w.heap.size+1,0,none⟩),.int .i64 0,.pointer (some ⟨w.heap.size+1+1,0,none⟩),.pointer (some ⟨w.heap.size+1+1+1,0,none⟩),.pointer (some ⟨g,0,none⟩),.pointer (some ⟨eb,0,none⟩),.pointer (some ⟨fb,0,none⟩),.int .i64 0,.tuple #[.pointer (some ⟨g,0,none⟩),.int .i64 0],.agg #[.int .i64 M,.slice A n c],.int .i64 most,.slice LA ln lc,.tuple #[.pointer (some ⟨g,0,none⟩),.int .i64 0],.pointer (some ⟨g,0,none⟩),.int .i64 0,.int .i64 0,.bool false,.pointer (some ⟨g,0,none⟩),.int .i64 0,.int .i64 0,.bool false,.pointer (some ⟨g,0,none⟩),.func (.func 62) #[] #[.pointer (some ⟨b1,0,none⟩)],.agg #[.string f1,.string f2],.int .i64 0,.int .i64 0,.bool false,undef,v34,v35,v36,v37,undef,undef,undef,undef,undef,undef,undef,undef,undef,undef,undef,undef,undef,undef,undef,undef,undef,undef,undef,undef],defers:=[] }∧EnvF W' (fF A3 n3 (qS (aft s0 k)).xs::bF LA3 ln3 (qS (aft s0 k)).ls::kF K::fs) ((fb,#[.string f1,.string f2],27)::(b1,#[.pointer (some ⟨g,0,none⟩)],55)::(eb,#[.int .i64 0],32)::(g,rdc K most (qS (aft s0 k)).M A3 n3 c3 LA3 ln3 lc3,64)::(w.heap.size+1+1+1,#[.int .i64 (F:Int)],3)::(w.heap.size+1+1,#[v,.bool (decide (2000<F0)),.int .i64 0,.slice none 0 0],31)::(w.heap.size+1,#[.slice none 0 0,.bool false,.int .i64 0,.slice none 0 0],31)::(w.heap.size,#[.int .i64 M,.slice A n c],24)::(gs++lb))∧Below w.heap.size w W'∧KeepsFrom Ws.heap.size W W') ?_ ?_
   ·have cz:=cells1_row (HE8.out.row 4 rfl)
    have zz:=frozen_of_row W _ 0 _ _ (HE8.out.row 4 rfl)
    obtain⟨cf0,cf1⟩:=cells2_row (HE8.out.row 0 rfl)
    gi_region_with (refine⟨trivial,?_⟩;(with_reducible refine(CallsIn.inRound l (callsIn_wide.2 (HTS.out _))).mono ?_);rintro e W5 ⟨rfl,hb5⟩;have E5:=Lib.hid ((HE8.out.drew).on hb5);have HB5:=Lib.hid hb5;have cz5:=cells1_row (E5.out.row 4 rfl);have zz5:=frozen_of_row W5 _ 0 _ _ (E5.out.row 4 rfl);clear hb5)
    all_goals refine⟨_,_,_,_,rfl,?_,?_,?_⟩
    all_goals first
     | exact(E5.out.setCell1 4 rfl (.int .i64 (F:Int)) (cs:=#[.int .i64 (F:Int)]) rfl)
     | exact(below_step HBW.out.drew HB5.out).setCell (p:=⟨w.heap.size+1+1+1,0,none⟩) (by simp only;omega) _
     | exact((keepsFrom_below (Below.refl _ W).drew _).trans (keepsFrom_below HB5.out _)).trans (keepsFrom_setCell1 (E5.out.row 4 rfl) _ _)
   rintro a W' ⟨v34,v35,v36,v37,rfl,hE9,hB9,hK9⟩
   have HE9:=Lib.hid hE9
   have HB9:=Lib.hid hB9
   have HK9:=Lib.hid hK9
   have cz:=cells1_row (hE9.row 4 rfl)
   obtain⟨cu0,cu1,cu2,cu3⟩:=cells4_row (hE9.row 5 rfl)
   obtain⟨cf0,cf1⟩:=cells2_row (hE9.row 0 rfl)
   have zu0:=frozen_of_row W' _ 0 _ _ (hE9.row 5 rfl)
   have zu1:=frozen_of_row W' _ 1 _ _ (hE9.row 5 rfl)
   have hlu:w.heap.size+1+1<W'.heap.size:=hE9.lt (y:=(w.heap.size+1+1,_,_)) (List.mem_of_getElem? (i:=5) rfl)
   have hfu:fb≠w.heap.size+1+1:=hE9.ne 0 5 rfl rfl (by omega)
   have hN9:N≤W'.heap.size:=Nat.le_trans hN2 HK9.out.size
   clear hE9 hB9 hK9 HE8 HBW
   by_cases hgt:2000<F
   ·have hd1:decide (2000<F)=true:=decide_eq_true hgt
    have hd2:decide ((2000:Int)<(F:Int))=true:=decide_eq_true (by omega)
    have HGT:=Lib.hid hgt
    clear hgt
    gi_wp2
    refine⟨HK9.out.trans (keepsFrom_setCell1 (HE9.out.row 5 rfl) _ _),trivial,?_⟩
    dsimp only
    rw[HK1.out]
    refine⟨HOK1.out,by simpa using hN9,HB9.out.setCell (p:=⟨w.heap.size+1+1,1,none⟩) (by simp only;omega) _,A3,n3,c3,LA3,ln3,lc3,v,lb,?_,hl5,hl6,hl7,?_⟩
    ·have hks:keep 2000 (FL s0 k++[(f1,f2)])=if 2000<full (FL s0 k++[(f1,f2)]) then keep 2000 (FL s0 k) else FL s0 k++[(f1,f2)]:=keep_snoc (M:=2000)
     rw[HFS.out,HF12.out,hks,if_pos (by rw[←HF12.out,←HFS.out,HNF.out.2.1];exact HGT.out)]
     exact HLB.out
    ·rw[HNF.out.2.1,hd1]
     exact(HE9.out.setCell1 (j:=1) 5 rfl (.bool true) (cs:=#[v,.bool true,.int .i64 0,.slice none 0 0]) rfl).sub (fun x hx=>hx) (.cons _ (List.Sublist.refl _))
   ·have hd1:decide (2000<F)=false:=decide_eq_false hgt
    have hd2:decide ((2000:Int)<(F:Int))=false:=decide_eq_false (by omega)
    have HGT:=Lib.hid hgt
    have HE10:=Lib.hid (HE9.out.setCell1 (j:=1) 5 rfl (.bool false) (cs:=#[v,.bool false,.int .i64 0,.slice none 0 0]) rfl)
    have HB10:=Lib.hid (HB9.out.setCell (p:=⟨w.heap.size+1+1,1,none⟩) (by simp only;omega) (.bool false))
    have HK10:=Lib.hid (HK9.out.trans (keepsFrom_setCell1 (j:=1) (B:=Ws.heap.size) (HE9.out.row 5 rfl) (.bool false)))
    have hkeep:keep 2000 (FL s0 k)=FL s0 k:=keep_all (by have:=HNF.out;have:=HGT.out;omega)
    have hkeep2:keep 2000 (FL s0 k)++[(f1,f2)]=keep 2000 (FL s0 (k+1)):=by
     have hks:keep 2000 (FL s0 k++[(f1,f2)])=if 2000<full (FL s0 k++[(f1,f2)]) then keep 2000 (FL s0 k) else FL s0 k++[(f1,f2)]:=keep_snoc (M:=2000)
     rw[hkeep,HFS.out,HF12.out,hks,if_neg (by rw[←HF12.out,←HFS.out,HNF.out.2.1];exact HGT.out)]
    have hklen:(keep 2000 (FL s0 k)).length+1≤1000000:=by rw[hkeep,FL_len];omega
    have HKEEP:=Lib.hid hkeep2
    have HKLEN:=Lib.hid hklen
    have HOW:=Lib.hid (HLB.out.own HE10.out (fun y hy=>by
     iterate 8 apply List.mem_cons_of_mem
     exact List.mem_append_right _ hy))
    obtain⟨i0,hi,hz0,hz1,hz2⟩:=info_parts info_fld
    have hinf:=Lib.hid (And.intro hi (And.intro hz0 (And.intro hz1 hz2)))
    obtain⟨L0,hL0⟩ : ∃L0,keep 2000 (FL s0 k)=L0:=⟨_,rfl⟩
    rw[hL0] at HLB HKEEP HKLEN HOW
    clear hgt HE9 HB9 HK9 hkeep hkeep2 hklen hi hz0 hz1 hz2 hL0
    gi_wp2_with (gi_at_builtin;refine wpListIn_append_flds2 _ rfl (.tmp 45) (.tmp 47) 22 rfl w.heap.size 27 i0 Tryz.underlying22 hinf.out.1 hinf.out.2.1 hinf.out.2.2.1 hinf.out.2.2.2 v L0 rfl (HOW.out.alloc _) _ _ 1 1 [(f1,f2)] rfl (fs_lit _ _ [(f1,f2)] _ _ (by simp) (by simp[fdc])) (fun h=>by cases h) HKLEN.out (by have:=HB10.out.size;simp at this ⊢;omega) ?_;intro v4 w4 hown4 hb4 hg4 hv4;obtain⟨A4,c4,rfl,_⟩:=hown4.form2 (n:=L0.length+1) (by simp);obtain⟨lb4,hl4,hE4⟩:=lbox_append (gs:=(fb,#[.string f1,.string f2],27)::(b1,#[.pointer (some ⟨g,0,none⟩)],55)::(eb,#[.int .i64 0],32)::(g,rdc K most (qS (aft s0 k)).M A3 n3 c3 LA3 ln3 lc3,64)::(w.heap.size+1+1+1,#[.int .i64 (F:Int)],3)::(w.heap.size+1+1,#[v,.bool false,.int .i64 0,.slice none 0 0],31)::(w.heap.size+1,#[.slice none 0 0,.bool false,.int .i64 0,.slice none 0 0],31)::(w.heap.size,#[.int .i64 M,.slice A n c],24)::gs) (HE10.out.on ((Below.refl _ _).alloc (Nat.le_refl _) _)) HLB.out hown4 hg4 hv4;have HL4:=Lib.hid hl4;have HE4:=Lib.hid hE4;have HB4:=Lib.hid hb4;have HG4:=Lib.hid hg4;have ca4:=(cells4_row (hE4.row 5 rfl)).1;have za4:=frozen_of_row w4 _ 0 _ _ (hE4.row 5 rfl);have hlu4:w.heap.size+1+1<w4.heap.size:=hE4.lt (y:=(w.heap.size+1+1,_,_)) (List.mem_of_getElem? (i:=5) rfl);clear hown4 hb4 hg4 hv4 hl4 hE4)
    refine⟨((HK10.out.trans (keepsFrom_below ((Below.refl _ _).alloc (Nat.le_refl _) _) _)).trans (keepsFrom_grown HG4.out (fun r hr=>(HOW.out.alloc (.cells #[.string f1,.string f2] 27)).iscells hr) _)).trans (keepsFrom_setCell1 (HE4.out.row 5 rfl) _ _),trivial,?_⟩
    dsimp only
    rw[HK1.out]
    refine⟨HOK1.out,?_,?_,A3,n3,c3,LA3,ln3,lc3,.slice A4 (L0.length+1) c4,lb4,HKEEP.out ▸ HL4.out,hl5,hl6,hl7,?_⟩
    ·have h8:=HG4.out.size
     simp at h8 ⊢
     omega
    ·exact((HB10.out.alloc HB10.out.size _).trans HB4.out).setCell (p:=⟨w.heap.size+1+1,0,none⟩) (by simp only;omega) _
    ·rw[HNF.out.2.1,hd1]
     exact(HE4.out.setCell1 (j:=0) 5 rfl (.slice A4 (L0.length+1) c4) (cs:=#[.slice A4 (L0.length+1) c4,.bool false,.int .i64 0,.slice none 0 0]) rfl).sub (fun x hx=>hx) (.cons _ (List.Sublist.refl _))
  ·have hb:(E != 0)=true:=by rw[bne_iff_ne];exact hE
   have ce:=cells1_row (hE8.row 2 rfl)
   have ze:=frozen_of_row W eb 0 _ _ (hE8.row 2 rfl)
   clear hE8
   gi_wp2
   refine wpIn_goto ?_
   refine⟨keepsFrom_setCells (HE8.out.row 2 rfl) [.int .i64 E] _,rfl,k,HOK.out,HLL.out,by rw[HEE.out];exact hE,?_⟩
   rw[HEE.out]
   refine⟨(HE8.out.setCells 2 rfl [.int .i64 E] rfl).sub (fun x hx=>by cases hx) ?_,HBW.out.setCell (p:=⟨eb,0,none⟩) heg _,by rw[World.size_setCell];exact hN2,by omega,fun x hx=>(by cases hx),fun y hy=>?_⟩
   ·exact .cons _ (.cons _ (.cons_cons _ (.cons _ (.cons _ (.cons _ (.cons_cons _ (List.nil_sublist _)))))))
   ·simp only[List.mem_cons,List.not_mem_nil,or_false] at hy
    rcases hy with rfl | rfl
    ·exact heN
    ·simp only;omega
 case done=>
  rintro D xs' s W hD ⟨hs,hS⟩ hI hK
  obtain⟨k,hk⟩ : ∃k,xs'.length=k:=⟨_,rfl⟩
  rw[hk] at hs hS hI
  subst hs
  obtain⟨hok,hN2,hbw,A3,n3,c3,LA3,ln3,lc3,v,lb,hLB,hl5,hl6,hl7,hE8⟩:=hI
  have hls:(aft s0 k).ls=[]:=by
   rcases hS with ⟨_,h⟩ | ⟨q,hq,_,hl,he⟩
   ·exact h
   ·exact absurd (hok q (by omega)).2 he
  obtain⟨LL,cl,rfl,hcl⟩:=hLB.form
  have hn3:=(hE8.fs (A:=A3) (n:=n3) (xs:=(aft s0 k).xs) (by simp)).1
  have KX:=Lib.hid hE8
  have GX:=Lib.hid hbw
  have HD0:=Lib.hid hK
  have HLB:=Lib.hid hLB
  have HN3:=Lib.hid hn3
  clear hE8 hbw hK hLB hS hn3 hk
  simp only[List.nil_append] at KX
  go_wp2_with (first
   | go_skip
   | (refine at_load 24 (.tmp 52) (by rfl) ?_;refine wpList_part (by rfl) 24 (.tmp 52) (by rfl) g 2 (by rfl) 64 #[.map (some K),.int .i64 most,.int .i64 (aft s0 k).M,.slice A3 n3 c3,.slice LA3 ln3 lc3] #[.int .i64 (aft s0 k).M,.slice A3 n3 c3] _ (KX.out.row 2 rfl) (part2 (by rfl) (by rfl)) Tryz.underlying24 (by rfl) infoc_T ?_)
   | (refine at_store 24 (.tmp 54) (.tmp 53) (by rfl) ?_;refine wpList_put (by rfl) 24 (.tmp 54) (.tmp 53) (by rfl) (w.heap.size+1+1) 2 (.agg #[.int .i64 (aft s0 k).M,.slice A3 n3 c3]) (by rfl) (by rfl) 31 #[.slice LL (keep 2000 (FL s0 k)).length cl,.bool (decide (2000<full (FL s0 k))),.int .i64 0,.slice none 0 0] #[.slice LL (keep 2000 (FL s0 k)).length cl,.bool (decide (2000<full (FL s0 k))),.int .i64 (aft s0 k).M,.slice A3 n3 c3] (KX.out.row 4 rfl) (by simp[Value.cells]) (by kernel_rfl) infoc_T (by kernel_rfl) ?_;intro w1 hrow hoth hz hbl;have K1:=Lib.hid (KX.out.turn 4 rfl hrow hoth hz);have G1:Hid (Below w.heap.size w w1):=Lib.hid (hbl _ _ (by omega) GX.out);have HD1:Hid (w1.heap[D]? = some (.deferred (some []))):=Lib.hid ((hoth D (by omega)).trans HD0.out);clear HD0;clear hrow hoth hz hbl KX GX)
   | (refine at_load 31 (.tmp 8) (by rfl) ?_;refine wpListG_row (by rfl) 31 (.tmp 8) (by rfl) (w.heap.size+1+1) (by rfl) 31 #[.slice LL (keep 2000 (FL s0 k)).length cl,.bool (decide (2000<full (FL s0 k))),.int .i64 (aft s0 k).M,.slice A3 n3 c3] _ (K1.out.row 4 rfl) Tryz.underlying31 (by rfl) infoc_U ?_)
   | (refine at_store 31 (.tmp 6) (.tmp 55) (by rfl) ?_;refine wpList_put (by rfl) 31 (.tmp 6) (.tmp 55) (by rfl) (w.heap.size+1) 0 (.agg #[.slice LL (keep 2000 (FL s0 k)).length cl,.bool (decide (2000<full (FL s0 k))),.int .i64 (aft s0 k).M,.slice A3 n3 c3]) (by rfl) (by rfl) 31 #[.slice none 0 0,.bool false,.int .i64 0,.slice none 0 0] #[.slice LL (keep 2000 (FL s0 k)).length cl,.bool (decide (2000<full (FL s0 k))),.int .i64 (aft s0 k).M,.slice A3 n3 c3] (K1.out.row 5 rfl) (by simp[Value.cells]) (by kernel_rfl) infoc_U (by kernel_rfl) ?_;intro w2 hrow hoth hz hbl;have K2:=Lib.hid (K1.out.turn 5 rfl hrow hoth hz);have G2:Hid (Below w.heap.size w w2):=Lib.hid (hbl _ _ (by omega) G1.out);have HD2:Hid (w2.heap[D]? = some (.deferred (some []))):=Lib.hid ((hoth D (by omega)).trans HD1.out);clear HD1;clear hrow hoth hz hbl K1 G1))
  have hgp:=grownBy_putObj' w2 D (.deferred none)
  have hDl:N≤D:=by omega
  have E4:=env_grow (N:=N) K2.out hgp (fun r e=>by cases e;exact⟨hDl,_,HD2.out,rfl⟩) hKN hfN
  have B4:=G2.out.grown hgp G2.out.size (fun r e=>by cases e;omega)
  have E5:EnvF (w2.putObj D (.deferred none)) (fF A3 n3 (aft s0 k).xs::fs) (gs++lb):=E4.sub (fun x hx=>by
   simp only[List.mem_cons] at hx ⊢
   rcases hx with rfl | hx<;>simp[*]) (by
   simp only[List.set_cons_succ,List.set_cons_zero]
   iterate 7 apply List.Sublist.cons
   exact List.Sublist.refl _)
  refine⟨by simp,.inl ⟨_,_,rfl,run_takeDeferred HD2.out,⟨_,res_cell_tmp rfl _ _ _ _ _ _ rfl (E4.row 5 rfl) Tryz.underlying31 rfl infoc_U,.inr ⟨k,LL,cl,A3,c3,hok,hls,?_,B4,?_,hcl,hl7⟩⟩⟩⟩
  ·rw[HN3.out]
   rfl
  ·rw[HN3.out]
   exact lbox_fact E5 HLB.out rfl
 case stop=>
  rintro D cd pre W hD _ ⟨rfl,hX⟩ hK
  obtain⟨k,hok,hl,hE,hV⟩:=hX
  have HV:=Lib.hid hV
  have HK:=Lib.hid hK
  have ce:=cells1_row (hV.e.row 0 rfl)
  obtain⟨cu0,cu1,cu2,cu3⟩:=cells4_row (hV.e.row 1 rfl)
  have zu0:=frozen_of_row W (w.heap.size+1) 0 _ _ (hV.e.row 1 rfl)
  have zu1:=frozen_of_row W (w.heap.size+1) 1 _ _ (hV.e.row 1 rfl)
  have zu2:=frozen_of_row W (w.heap.size+1) 2 _ _ (hV.e.row 1 rfl)
  have zu3:=frozen_of_row W (w.heap.size+1) 3 _ _ (hV.e.row 1 rfl)
  have hne1:eb≠w.heap.size+1:=hV.e.ne 0 1 rfl rfl (by omega)
  have hne2:w.heap.size+1≠eb:=fun h=>hne1 h.symm
  have E3:=Lib.hid ((hV.setCells 1 rfl [.slice none 0 0,.bool false,.int .i64 0,.slice none 0 0] rfl (by omega)).drew)
  have HD3:Hid ((W.setCells (w.heap.size+1) 0 [.slice none 0 0,.bool false,.int .i64 0,.slice none 0 0]).drew.heap[D]? = some (.deferred (some []))):=Lib.hid ((setCells_other _ _ _ _ D (by omega)).trans hK)
  clear hV hK
  refine wpIn_wide.2 ?_
  go_step3
  refine⟨rfl,?_⟩
  go_wp2
  refine wp_to (fun a w'=>∃(v0 v1 v2 v3 v4 v5 v8 v9 v10 v11 v12 v13 v14 v15 v16 v17 v18 v19 v20 v21 v22 v23 v24 v25 v26 v27 v28 v29 v30 v31 v32 v33 v34 v35 v36 v37 v38 v39 v40 v41 v42 v43 v44 v45 v46 v47 v48 v49 v50 v51 v52 v53 v54 v55 v56 v57:Value),a={ tmps:=#[v0,v1,v2,v3,v4,v5,.pointer (some ⟨w.heap.size+1,0,none⟩),.int .i64 (qE (aft s0 k)),v8,v9,v10,v11,v12,v13,v14,v15,v16,v17,v18,v19,v20,v21,v22,v23,v24,v25,v26,v27,v28,v29,v30,v31,v32,v33,v34,v35,v36,v37,v38,v39,v40,v41,v42,v43,v44,v45,v46,v47,v48,v49,v50,v51,v52,v53,v54,v55,v56,v57],defers:=[{ target:=.collected D,args:=#[] }] }∧w'=(W.setCells (w.heap.size+1) 0 [.slice none 0 0,.bool false,.int .i64 0,.slice none 0 0]).drew) ?_ ?_
  ·go_region
   all_goals exact⟨_,_,_,_,_,_,_,_,_,_,_,_,_,_,_,_,_,_,_,_,_,_,_,_,_,_,_,_,_,_,_,_,_,_,_,_,_,_,_,_,_,_,_,_,_,_,_,_,_,_,_,_,_,_,_,_,rfl,rfl⟩
  rintro a w' ⟨v0,v1,v2,v3,v4,v5,v8,v9,v10,v11,v12,v13,v14,v15,v16,v17,v18,v19,v20,v21,v22,v23,v24,v25,v26,v27,v28,v29,v30,v31,v32,v33,v34,v35,v36,v37,v38,v39,v40,v41,v42,v43,v44,v45,v46,v47,v48,v49,v50,v51,v52,v53,v54,v55,v56,v57,rfl,rfl⟩
  go_wp2
  have E4:=E3.out.grow (grownBy_putObj' _ D (.deferred none)) (fun r e=>by cases e;omega)
  exact⟨by simp,.inl ⟨_,_,rfl,run_takeDeferred HD3.out,⟨_,res_cell_tmp rfl _ _ _ _ _ _ rfl (E4.e.row 1 rfl) Tryz.underlying31 rfl infoc_U,.inl ⟨k,hok,hl,hE,rfl,E4.b⟩⟩⟩⟩
end Go.Proofs.YtahiajeggbpogaaGreatDoor
