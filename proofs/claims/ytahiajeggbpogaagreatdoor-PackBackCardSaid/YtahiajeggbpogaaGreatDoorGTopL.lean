import Derived.Test.YtahiajeggbpogaaGreatDoorMGa
namespace Go.Proofs.YtahiajeggbpogaaGreatDoor
open Go.ChangeShapes Go.WideShapes Go.ChangeAt Go.RowKit
set_option linter.unusedVariables false
set_option linter.unusedSimpArgs false
theorem open_fldsV{H:Type}{enc:TypeId×Value→H}{P:Program}{w:World}{base:Nat}{spare:Nat→Bool}{held:Bool}{r:Reach}{b0:Nat}{t e:TypeId}{g0 g1:Field}{v:Value}{d:DataW H}{p:List MemPlace}(u1:P.underlying t=some (.slice e))(he:P.underlying e=some (.struct #[g0,g1]))
  (ce:P.cellsOf e=2) (q0:g0.offset=0) (q1:g1.offset=1) (d0:P.cellsOf g0.type=1) (d1:P.cellsOf g1.type=1) (t0:P.underlying g0.type=some .string) (t1:P.underlying g1.type=some .string)
  (hv:Value.okWide P w r b0 t v) (h:DataW.Trod enc P w base spare held t v d p) (hz : ∀n∈d.weights P t,n≤reachBytes) :
  ∃(a:Option Addr) (len cap:Nat),v = .slice a len cap∧IsFlds w a len cap:=by
 obtain⟨a,len,cap,rfl⟩:=okWide_slice u1 hv
 obtain⟨fuel,hf⟩:=h
 rcases Go.Deep.open_slice_pairs u1 he ce q0 q1 d0 d1 hf with ⟨hcs,_⟩ | ⟨x,l,c,m,k,V0,V1,D0,D1,P0,P1,hcs,_,hl,hm,hmm,hy,hc⟩
 ·simp[Value.cells] at hcs
  obtain⟨rfl,rfl,rfl⟩:=hcs
  exact⟨none,0,0,rfl,.inl ⟨rfl,rfl,rfl⟩⟩
 ·simp[Value.cells] at hcs
  obtain⟨rfl,rfl,rfl⟩:=hcs
  refine⟨some x,len,cap,rfl,.inr ⟨x,rfl,hl,hm,fun i hi=>?_⟩⟩
  obtain⟨h1,h2,p0,p1⟩:=hc i (by rw[hmm];split<;>omega)
  obtain⟨s0,e0,r0,_⟩:=DataW.trod_string t0 p0
  obtain⟨s1,e1,r1,_⟩:=DataW.trod_string t1 p1
  simp only[List.cons.injEq,and_true] at e0 e1
  rw[e0] at h1
  rw[e1] at h2
  have hin:(DataW.agg [D0 i,D1 i])∈((List.range len).map fun i=>DataW.agg [D0 i,D1 i]):=List.mem_map.2 ⟨i,List.mem_range.2 hi,rfl⟩
  have hw : ∀n∈(DataW.agg [D0 i,D1 i]).weights P e,n≤reachBytes:=fun n hn=>by
   refine hz n ?_
   have hn2:=weightsAll_mem (P:=P) hin n hn
   have hd:=(Prod.mk.inj hy).1
   subst hd
   simp only[DataW.weights,u1]
   simp only[List.mem_append,List.mem_cons]
   first | exact hn2 | exact .inr hn2 | exact .inl hn2 | exact .inr (.inl hn2) | exact .inl (.inr (.inl hn2)) | exact .inr (.inr hn2)
  rw[(Prod.mk.inj r0).1,(Prod.mk.inj r1).1] at hw
  simp[DataW.weights,he,DataW.weightsEach] at hw
  exact⟨s0,s1,h1,h2,reach47 hw.1,reach47 hw.2⟩
end Go.Proofs.YtahiajeggbpogaaGreatDoor
