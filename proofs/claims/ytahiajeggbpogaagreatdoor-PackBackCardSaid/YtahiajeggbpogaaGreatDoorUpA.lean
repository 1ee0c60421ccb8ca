import Derived.Test.YtahiajeggbpogaaGreatDoorMGa
import Derived.Test.YtahiajeggbpogaaGreatDoorUpX
namespace Go.Proofs.YtahiajeggbpogaaGreatDoor
open Go.RowKit
set_option linter.unusedVariables false
section
variable {w w1 w2 w':World}{g:Nat}{fs:List Fact}{gs:List Bx}
theorem below_gb{B:Nat}{w0:World}(h:Below B w0 w1)(k:w1.grownBy w2 (some g))(hB:B≤g)(hB1:B≤w1.heap.size):Below B w0 w2:=
 ⟨k.os.trans h.os,k.tape.trans h.tape,k.output.trans h.output,Nat.le_trans h.size k.size,fun j hj=>(k.block j (by omega) (fun e=>by cases e;omega)).trans (h.block j hj)⟩
theorem EnvF.fact(h:EnvF w fs gs){x:Fact}(hx:x.is w)(ho : ∀k,x.on k→k<w.heap.size∧∀y∈gs,k≠y.1):EnvF w (x::fs) gs:=
 ⟨fun y hy=>by
  rcases List.mem_cons.1 hy with rfl | hy
  ·exact⟨hx,ho⟩
  ·exact h.f y hy,h.g,h.d⟩
end
structure EvI (w:World) (fs:List Fact) (gs:List Bx) (N:Nat) (W:World):Prop where
 e:EnvF W fs gs
 b:Below w.heap.size w W
 z:N≤W.heap.size
 n:w.heap.size≤N
 hf : ∀x∈fs,∀k,x.on k→k<N
 hg : ∀y∈gs,y.1<N
section
variable {w W W':World}{fs fs':List Fact}{gs gs':List Bx}{N:Nat}
theorem EvI.grow(h:EvI w fs gs N W){row:Option Nat}(hg:W.grownBy W' row)(hr : ∀r,row=some r→N≤r):EvI w fs gs N W':=by
 have hne : ∀k,k<N→k<W.heap.size→W'.heap[k]? = W.heap[k]?:=fun k hk hz=>hg.block k hz (fun e=>by have:=hr k e.symm;omega)
 refine⟨⟨fun x hx=>⟨x.dep W W' (h.e.f x hx).1 hg.size fun k hk=>hne k (h.hf x hx k hk) ((h.e.f x hx).2 k hk).1,fun k hk=>⟨Nat.lt_of_lt_of_le ((h.e.f x hx).2 k hk).1 hg.size,((h.e.f x hx).2 k hk).2⟩⟩,fun y hy=>(hne _ (h.hg y hy) (h.e.lt hy)).trans (h.e.g y hy),h.e.d⟩,?_,Nat.le_trans h.z hg.size,h.n,h.hf,h.hg⟩
 exact⟨hg.os.trans h.b.os,hg.tape.trans h.b.tape,hg.output.trans h.b.output,Nat.le_trans h.b.size hg.size,fun k hk=>(hne k (by have:=h.n;omega) (Nat.lt_of_lt_of_le hk h.b.size)).trans (h.b.block k hk)⟩
theorem EvI.on(h:EvI w fs gs N W)(hb:Below W.heap.size W W'):EvI w fs gs N W':=⟨h.e.on hb,below_step h.b hb,Nat.le_trans h.z hb.size,h.n,h.hf,h.hg⟩
theorem EvI.drew(h:EvI w fs gs N W):EvI w fs gs N W.drew:=h.on (Below.refl _ W).drew
theorem EvI.setCells(h:EvI w fs gs N W)(i:Nat){g:Nat}{old cs:Array Value}{t:TypeId}(hi:gs[i]? = some (g,old,t))(vs:List Value)(hcs:upd old 0 vs=cs)(hB:w.heap.size≤g):EvI w fs (gs.set i (g,cs,t)) N (W.setCells g 0 vs):=by
 subst hcs
 have hz:=setCells_size g vs 0 W
 refine⟨h.e.setCells i hi vs rfl,?_,by rw[hz];exact h.z,h.n,h.hf,fun y hy=>?_⟩
 ·have hb : ∀(vs:List Value) (j:Nat) (X:World),Below w.heap.size w X→Below w.heap.size w (X.setCells g j vs):=by
   intro vs
   induction vs with
   | nil=>intro j X hX;exact hX
   | cons v vs ih=>intro j X hX;exact ih _ _ (hX.setCell (p:=⟨g,j,none⟩) hB v)
  exact hb vs 0 W h.b
 ·rcases List.mem_or_eq_of_mem_set hy with hy | rfl
  ·exact h.hg y hy
  ·exact h.hg (g,old,t) (List.mem_of_getElem? hi)
theorem keepsFrom_setCells{g:Nat}{old:Array Value}{t:TypeId}(hg:W.heap[g]? = some (.cells old t))(vs:List Value)(B:Nat):KeepsFrom B W (W.setCells g 0 vs):=
 ⟨by rw[setCells_size];exact Nat.le_refl _,fun k o _ hk ho=>by
  have hne:k≠g:=fun e=>by subst e;rw[hg] at hk;cases hk;cases ho
  exact(setCells_other g vs 0 W k hne).trans hk⟩
theorem keepsFrom_below(hb:Below W.heap.size W W')(B:Nat):KeepsFrom B W W':=⟨hb.size,fun k o _ hk _=>(hb.block k (Array.getElem?_eq_some_iff.1 hk).1).trans hk⟩
end
end Go.Proofs.YtahiajeggbpogaaGreatDoor
set_option maxRecDepth 100000
set_option maxHeartbeats 4000000
namespace Go.Proofs.YtahiajeggbpogaaGreatDoor
open Go.RowKit Px Tx Tb Up
set_option linter.unusedVariables false
set_option linter.unusedSimpArgs false
def Up.rdc(K:Nat)(most M:Int)(A:Option Addr)(n c:Nat)(LA:Option Addr)(ln lc:Nat):Array Value:=#[.map (some K),.int .i64 most,.int .i64 M,.slice A n c,.slice LA ln lc]
theorem Up.cut_on{LA A2:Option Addr}{ln lc k:Nat}{xs ys:List UInt8}{m B:Nat}{w:World}(h:(if lc=k then LA else LA.map fun x=>x.add k)=A2)(hB:Bs w B LA ln xs)(hm:m≤ln) : ∀b,(bF A2 m ys).on b→(bF LA ln xs).on b:=fun b hb=>by
 obtain⟨h0,o,e⟩:=hb
 obtain⟨q,r,e2,_,_⟩:=hB.2 (by omega)
 refine⟨by omega,?_⟩
 subst h
 subst e2
 split at e
 ·exact⟨o,e⟩
 ·simp only[Option.map_some,Option.some.injEq] at e
  rw[Addr.add_lit] at e
  cases e
  exact⟨_,rfl⟩
namespace Up
def rwF:Fact where
 on k:=k=6
 is w:=Hf.Rws w
 dep w w' h hz hk:=fun j v hj=>(World.cell?_of_block (hk 6 rfl)).trans (h j v hj)
theorem EnvF.rws{w:World}{fs:List Fact}{gs:List Bx}(h:EnvF w fs gs)(hm:rwF∈fs):Hf.Rws w:=(h.f _ hm).1
structure Opn (w:World) (fs:List Fact) (gs:List Bx) (i g K:Nat) (most:Int) (A:Option Addr) (n c:Nat) (LA:Option Addr) (ln lc:Nat) (s:Sta):Prop where
 e:EnvF w fs gs
 i:gs[i]? = some (g,rdc K most s.M A n c LA ln lc,64)
 f:fF A n s.xs∈fs
 l:bF LA ln s.ls∈fs
 hl:ln≤lc
 hN:LA=none→lc=0
 hA:A=none→c=0
def Cls(w:World)(fs:List Fact)(gs:List Bx)(i g K:Nat)(most:Int)(s:Sta):Prop:=
 ∃A n c LA ln lc,Opn w (fF A n s.xs::bF LA ln s.ls::fs) (gs.set i (g,rdc K most s.M A n c LA ln lc,64)) i g K most A n c LA ln lc s
section
variable {w w':World}{fs:List Fact}{gs:List Bx}{i g K:Nat}{most:Int}{A:Option Addr}{n c:Nat}{LA:Option Addr}{ln lc:Nat}{s:Sta}
theorem Opn.row(h:Opn w fs gs i g K most A n c LA ln lc s):w.heap[g]? = some (.cells (rdc K most s.M A n c LA ln lc) 64):=h.e.row i h.i
theorem Opn.bs(h:Opn w fs gs i g K most A n c LA ln lc s):Bs w w.heap.size LA ln s.ls:=h.e.bs h.l
theorem Opn.lt(h:Opn w fs gs i g K most A n c LA ln lc s):g<w.heap.size:=(Array.getElem?_eq_some_iff.1 h.row).1
theorem Opn.on(h:Opn w fs gs i g K most A n c LA ln lc s)(hb:Below w.heap.size w w'):Opn w' fs gs i g K most A n c LA ln lc s:=⟨h.e.on hb,h.i,h.f,h.l,h.hl,h.hN,h.hA⟩
theorem Opn.len(h:Opn w fs gs i g K most A n c LA ln lc s):s.ls.length=ln:=h.bs.1
theorem set_ix{i:Nat}{x y:Bx}(h:gs[i]? = some x):(gs.set i y)[i]? = some y:=by
 rw[List.getElem?_set_self (List.getElem?_eq_some_iff.1 h).1]
theorem Opn.left(h:Opn w fs gs i g K most A n c LA ln lc s){A2:Option Addr}{k:Nat}(hk:k≤ln)(hA2:(if lc=k then LA else LA.map fun x=>x.add k)=A2)(he:EnvF w' fs (gs.set i (g,rdc K most s.M A n c A2 (ln-k) (lc-k),64))) :
  Cls w' fs gs i g K most ⟨s.M,s.xs,s.ls.drop k⟩:=by
 have hb:=Tx.cutO (he.bs h.l) hk h.hl
 rw[hA2] at hb
 have e1:=he.less (x:=bF A2 (ln-k) (s.ls.drop k)) h.l hb (cut_on hA2 (he.bs h.l) (by omega))
 exact⟨A,n,c,A2,ln-k,lc-k,e1.less (List.mem_cons_of_mem _ h.f) (he.fs h.f) (fun _ h=>h),set_ix h.i,List.mem_cons_self ..,List.mem_cons_of_mem _ (List.mem_cons_self ..),by have:=h.hl;omega,Tx.cut_none hA2 h.hN,h.hA⟩
end
end Up
theorem u_rest(a b:Nat)(w:World)(ha:a≤8) :
  Calls Tryz.prog 71 #[.agg #[.int .u8 (a:Int),.int .u8 (b:Int)]] w fun e w'=>e = .returned (.int .i64 ((8-a:Nat):Int))∧Below w.heap.size w w':=by
 have h1:IntKind.i64.wrap (a:Int)=(a:Int):=IntWalk.i64_in _ (by omega)
 have h2:(8:Int)-(a:Int)=((8-a:Nat):Int):=by omega
 have h3:IntKind.i64.wrap ((8:Int)-(a:Int))=((8-a:Nat):Int):=by rw[IntWalk.i64_in _ (by omega)];omega
 go_enter Tryz.func71,Tryz.ntmps71
 go_wp2
 go_ret
 exact⟨rfl,(Below.refl _ w).alloc (Nat.le_refl _) _⟩
end Go.Proofs.YtahiajeggbpogaaGreatDoor
