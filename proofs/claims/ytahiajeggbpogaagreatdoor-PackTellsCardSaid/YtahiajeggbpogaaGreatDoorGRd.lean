import Derived.Test.YtahiajeggbpogaaGreatDoorMGa
namespace Go.Proofs.YtahiajeggbpogaaGreatDoor
open Go.RowKit
set_option linter.unusedVariables false
section
variable {w w1 w2 w':World}{g:Nat}{fs:List Fact}{gs:List Bx}
theorem below_gb{B:Nat}{w0:World}(h:Below B w0 w1)(k:w1.grownBy w2 (some g))(hB:B≤g)(hB1:B≤w1.heap.size):Below B w0 w2:=
 ⟨k.os.trans h.os,k.tape.trans h.tape,k.output.trans h.output,Nat.le_trans h.size k.size,fun j hj=>(k.block j (by omega) (fun e=>by cases e;omega)).trans (h.block j hj)⟩
theorem EnvF.fact(h:EnvF w fs gs){x:Fact}(hx:x.is w)(ho : ∀k,x.on k→k<w.heap.size∧∀y∈gs,k≠y.1):EnvF w (x::fs) gs:=
 ⟨fun y hy=>by
  rcases List.mem_cons.1 hy with rfl | hy
  ·exact⟨hx,ho⟩
  ·exact h.f y hy,h.g,h.d⟩
end
structure EvI (w:World) (fs:List Fact) (gs:List Bx) (N:Nat) (W:World):Prop where
 e:EnvF W fs gs
 b:Below w.heap.size w W
 z:N≤W.heap.size
 n:w.heap.size≤N
 hf : ∀x∈fs,∀k,x.on k→k<N
 hg : ∀y∈gs,y.1<N
section
variable {w W W':World}{fs fs':List Fact}{gs gs':List Bx}{N:Nat}
theorem EvI.grow(h:EvI w fs gs N W){row:Option Nat}(hg:W.grownBy W' row)(hr : ∀r,row=some r→N≤r):EvI w fs gs N W':=by
 have hne : ∀k,k<N→k<W.heap.size→W'.heap[k]? = W.heap[k]?:=fun k hk hz=>hg.block k hz (fun e=>by have:=hr k e.symm;omega)
 refine⟨⟨fun x hx=>⟨x.dep W W' (h.e.f x hx).1 hg.size fun k hk=>hne k (h.hf x hx k hk) ((h.e.f x hx).2 k hk).1,fun k hk=>⟨Nat.lt_of_lt_of_le ((h.e.f x hx).2 k hk).1 hg.size,((h.e.f x hx).2 k hk).2⟩⟩,fun y hy=>(hne _ (h.hg y hy) (h.e.lt hy)).trans (h.e.g y hy),h.e.d⟩,?_,Nat.le_trans h.z hg.size,h.n,h.hf,h.hg⟩
 exact⟨hg.os.trans h.b.os,hg.tape.trans h.b.tape,hg.output.trans h.b.output,Nat.le_trans h.b.size hg.size,fun k hk=>(hne k (by have:=h.n;omega) (Nat.lt_of_lt_of_le hk h.b.size)).trans (h.b.block k hk)⟩
theorem EvI.on(h:EvI w fs gs N W)(hb:Below W.heap.size W W'):EvI w fs gs N W':=⟨h.e.on hb,below_step h.b hb,Nat.le_trans h.z hb.size,h.n,h.hf,h.hg⟩
theorem EvI.drew(h:EvI w fs gs N W):EvI w fs gs N W.drew:=h.on (Below.refl _ W).drew
theorem EvI.setCells(h:EvI w fs gs N W)(i:Nat){g:Nat}{old cs:Array Value}{t:TypeId}(hi:gs[i]? = some (g,old,t))(vs:List Value)(hcs:upd old 0 vs=cs)(hB:w.heap.size≤g):EvI w fs (gs.set i (g,cs,t)) N (W.setCells g 0 vs):=by
 subst hcs
 have hz:=setCells_size g vs 0 W
 refine⟨h.e.setCells i hi vs rfl,?_,by rw[hz];exact h.z,h.n,h.hf,fun y hy=>?_⟩
 ·have hb : ∀(vs:List Value) (j:Nat) (X:World),Below w.heap.size w X→Below w.heap.size w (X.setCells g j vs):=by
   intro vs
   induction vs with
   | nil=>intro j X hX;exact hX
   | cons v vs ih=>intro j X hX;exact ih _ _ (hX.setCell (p:=⟨g,j,none⟩) hB v)
  exact hb vs 0 W h.b
 ·rcases List.mem_or_eq_of_mem_set hy with hy | rfl
  ·exact h.hg y hy
  ·exact h.hg (g,old,t) (List.mem_of_getElem? hi)
theorem keepsFrom_setCells{g:Nat}{old:Array Value}{t:TypeId}(hg:W.heap[g]? = some (.cells old t))(vs:List Value)(B:Nat):KeepsFrom B W (W.setCells g 0 vs):=
 ⟨by rw[setCells_size];exact Nat.le_refl _,fun k o _ hk ho=>by
  have hne:k≠g:=fun e=>by subst e;rw[hg] at hk;cases hk;cases ho
  exact(setCells_other g vs 0 W k hne).trans hk⟩
theorem keepsFrom_below(hb:Below W.heap.size W W')(B:Nat):KeepsFrom B W W':=⟨hb.size,fun k o _ hk _=>(hb.block k (Array.getElem?_eq_some_iff.1 hk).1).trans hk⟩
end
end Go.Proofs.YtahiajeggbpogaaGreatDoor
