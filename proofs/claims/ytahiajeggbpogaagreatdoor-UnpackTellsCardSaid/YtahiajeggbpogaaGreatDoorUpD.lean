import Derived.Test.YtahiajeggbpogaaGreatDoorUpC
set_option maxRecDepth 100000
namespace Go.Proofs.YtahiajeggbpogaaGreatDoor
open Go.RowKit Go.ChangeMaps Px Tx Tb Up
set_option linter.unusedVariables false
set_option linter.unusedSimpArgs false
theorem infoc_m:(Tryz.prog.info? 72).map (·.size)=some 2:=by kernel_rfl
theorem mark_keyed:Maps.Keyed Tryz.prog 72:=
 Maps.Keyed.of_law (Go.deep_law_laid law_out (m:=2) (by omega) (of_decide_eq_true (by kernel_rfl)) (by kernel_rfl) (by rw[Tryz.underlying72]))
theorem mark_key(a b:Int)(ha:(Lit.int .u8 a).wf=true)(hb:(Lit.int .u8 b).wf=true) : ∃q,keyOf Tryz.prog 72 (.agg #[.int .u8 a,.int .u8 b])=some q:=by
 have hk:Tryz.prog.keyType 72=true:=by kernel_rfl
 have hc:Tryz.prog.cellsOf 72=2:=by kernel_rfl
 have hc3:Tryz.prog.cellsOf 5=1:=by kernel_rfl
 have h0:0<Tryz.prog.types.size:=of_decide_eq_true (by kernel_rfl)
 have hz : ∃m,Tryz.prog.types.size=m+1:=⟨Tryz.prog.types.size-1,by omega⟩
 obtain⟨m,hm⟩:=hz
 have hf:(Value.agg #[.int .u8 a,.int .u8 b]).formed Tryz.prog 72=true:=by simp[Value.formed,Tryz.underlying72,hc]
 have h1 : ∀x:Int,(Lit.int .u8 x).wf=true→Tryz.prog.keyLits (m+1) 5 [.int .u8 x]=some [.int .u8 x]:=fun x hx=>by
  unfold Program.keyLits
  rw[Tryz.underlying5]
  simp[hx]
 have hl:Tryz.prog.keyLits (Tryz.prog.types.size+1) 72 [.int .u8 a,.int .u8 b]=some [.int .u8 a,.int .u8 b]:=by
  rw[hm]
  unfold Program.keyLits
  rw[Tryz.underlying72]
  simp only[List.length_cons,List.length_nil,Nat.reduceAdd,hc,hc3,if_true,Nat.mul_one]
  have e0:(List.range 2)=[0,1]:=rfl
  rw[e0]
  simp only[List.mapM_cons,List.mapM_nil,List.drop_zero,List.take_succ_cons,List.take_zero,List.drop_succ_cons,h1 a ha,h1 b hb]
  rfl
 unfold keyOf
 rw[Tryz.underlying72]
 simp only[hk,hf,Bool.and_self,if_true]
 refine⟨.string (keyBytes [.int .u8 a,.int .u8 b]),?_⟩
 have e:(Value.agg #[.int .u8 a,.int .u8 b]).cells.toList=[.int .u8 a,.int .u8 b]:=rfl
 rw[e,hl]
 rfl
namespace Up
def mk(a b:Nat):Value:=.agg #[.int .u8 (a:Int),.int .u8 (b:Int)]
def ent:Nat→Value×Value
 | 0=>(.agg #[.int .u8 1,.int .u8 1],.int .u8 1)
 | 1=>(.agg #[.int .u8 2,.int .u8 1],.int .u8 2)
 | 2=>(.agg #[.int .u8 3,.int .u8 1],.int .u8 3)
 | 3=>(.agg #[.int .u8 4,.int .u8 1],.int .u8 4)
 | _=>(.agg #[.int .u8 4,.int .u8 0],.int .u8 4)
theorem ent_inj : ∀i j:Fin 5,(ent i.val).1=(ent j.val).1→i=j:=by
 intro i j h
 match i,j with
 | ⟨0,_⟩,⟨0,_⟩ | ⟨1,_⟩,⟨1,_⟩ | ⟨2,_⟩,⟨2,_⟩ | ⟨3,_⟩,⟨3,_⟩ | ⟨4,_⟩,⟨4,_⟩=>rfl
 | ⟨0,_⟩,⟨1,_⟩ | ⟨0,_⟩,⟨2,_⟩ | ⟨0,_⟩,⟨3,_⟩ | ⟨0,_⟩,⟨4,_⟩ | ⟨1,_⟩,⟨0,_⟩ | ⟨1,_⟩,⟨2,_⟩ | ⟨1,_⟩,⟨3,_⟩ | ⟨1,_⟩,⟨4,_⟩ | ⟨2,_⟩,⟨0,_⟩ | ⟨2,_⟩,⟨1,_⟩ | ⟨2,_⟩,⟨3,_⟩ | ⟨2,_⟩,⟨4,_⟩ | ⟨3,_⟩,⟨0,_⟩ | ⟨3,_⟩,⟨1,_⟩ | ⟨3,_⟩,⟨2,_⟩ | ⟨3,_⟩,⟨4,_⟩ | ⟨4,_⟩,⟨0,_⟩ | ⟨4,_⟩,⟨1,_⟩ | ⟨4,_⟩,⟨2,_⟩ | ⟨4,_⟩,⟨3,_⟩=>simp[ent] at h
def MapS(w:World)(b:Nat)(S:Nat→Bool):Prop:=∃l,MapL w Tryz.prog 72 b l∧∀p,p∈l↔∃j,j<5∧S j=true∧p=ent j
theorem ent_key(j:Nat)(hj:j<5) : ∃q,keyOf Tryz.prog 72 (ent j).1=some q:=by
 match j,hj with
 | 0,_=>exact mark_key 1 1 (by decide) (by decide)
 | 1,_=>exact mark_key 2 1 (by decide) (by decide)
 | 2,_=>exact mark_key 3 1 (by decide) (by decide)
 | 3,_=>exact mark_key 4 1 (by decide) (by decide)
 | 4,_=>exact mark_key 4 0 (by decide) (by decide)
theorem MapS.made(w:World):MapS (w.alloc (.map #[] 0)) w.heap.size (fun _=>false):=⟨[],MapL.made w _ _,fun p=>by simp⟩
theorem MapS.lt{w:World}{b:Nat}{S:Nat→Bool}(h:MapS w b S):b<w.heap.size:=by obtain⟨l,h,_⟩:=h;exact h.lt
theorem MapS.update{w:World}{b:Nat}{S:Nat→Bool}(h:MapS w b S)(j:Nat)(hj:j<5)(hS:S j=false) :
  ∃w',(Instr.mapUpdate 62 (.map (some b)) (ent j).1 (ent j).2).run Tryz.prog w = .ok () w'∧MapS w' b (fun x=>x==j||S x)∧w.grownBy w' (some b):=by
 obtain⟨l,hm,hl⟩:=h
 obtain⟨q,hq⟩:=ent_key j hj
 obtain⟨w',h1,h2,h3⟩:=hm.update mark_keyed Tryz.underlying62 hq (fun p hp e=>by
  obtain⟨i,hi,hSi,rfl⟩:=(hl p).1 hp
  have:=ent_inj ⟨i,hi⟩ ⟨j,hj⟩ e
  simp only[Fin.mk.injEq] at this
  subst this
  rw[hS] at hSi
  cases hSi) (ent j).2
 refine⟨w',h1,⟨_,h2,fun p=>?_⟩,h3⟩
 rw[List.mem_append,List.mem_singleton,hl p]
 constructor
 ·rintro (⟨i,hi,hSi,rfl⟩ | rfl)
  ·exact⟨i,hi,by simp[hSi],rfl⟩
  ·exact⟨j,hj,by simp,rfl⟩
 ·rintro ⟨i,hi,hSi,rfl⟩
  simp only[Bool.or_eq_true,beq_iff_eq] at hSi
  rcases hSi with rfl | hSi
  ·exact .inr rfl
  ·exact .inl ⟨i,hi,hSi,rfl⟩
def Knd(w:World)(b:Nat):Prop:=MapS w b (fun _=>true)
theorem MapS.all{w:World}{b:Nat}{S:Nat→Bool}(h:MapS w b S)(hS : ∀j,j<5→S j=true):Knd w b:=by
 obtain⟨l,hm,hl⟩:=h
 refine⟨l,hm,fun p=>(hl p).trans ?_⟩
 constructor
 ·rintro ⟨j,hj,_,e⟩;exact⟨j,hj,rfl,e⟩
 ·rintro ⟨j,hj,_,e⟩;exact⟨j,hj,hS j hj,e⟩
def kF(b:Nat):Fact where
 on k:=k=b
 is w:=Knd w b
 dep w w' h hz hk:=by
  obtain⟨l,hm,hl⟩:=h
  exact⟨l,hm.same (hk b rfl),hl⟩
end Up
theorem MapL.look_no1{P:Program}{k e t:TypeId}{w:World}{b:Nat}{l:List (Value×Value)}{key z:Value}(h:MapL w P k b l)(K:Maps.Keyed P k)(ht:P.underlying t=some (.map k e))(hz:(zeroValue e).run P w = .ok z w){q:Lit}(hkey:keyOf P k key=some q)(hno : ∀p∈l,p.1≠key) :
  (Instr.lookup t (.map (some b)) key false).run P w = .ok z w:=by
 obtain⟨es,clock,hb,rfl,hk,hd⟩:=h
 have hks : ∀x∈es.toList,∃q,keyOf P k x.key=some q:=fun x hx=>hk (x.key,x.val) (List.mem_map.2 ⟨x,hx,rfl⟩)
 rcases K.find w hkey es.toList hks with ⟨h1,h2⟩ | ⟨j,e0,h1,h2,h3⟩
 ·simp[Instr.lookup,run_underlying ht,MapKept.run_getObj_map hb,K.check w _ hkey,h1,hz,Result.andThen]
 ·exact absurd h3 (hno (e0.key,e0.val) (List.mem_map.2 ⟨e0,List.mem_of_getElem? h2,rfl⟩))
theorem MapL.look_yes1{P:Program}{k e t:TypeId}{w:World}{b:Nat}{l:List (Value×Value)}{key v:Value}(h:MapL w P k b l)(K:Maps.Keyed P k)(ht:P.underlying t=some (.map k e)){q:Lit}(hkey:keyOf P k key=some q)(hin:(key,v)∈l) :
  (Instr.lookup t (.map (some b)) key false).run P w = .ok v w:=by
 obtain⟨es,clock,hb,rfl,hk,hd⟩:=h
 have hks : ∀x∈es.toList,∃q,keyOf P k x.key=some q:=fun x hx=>hk (x.key,x.val) (List.mem_map.2 ⟨x,hx,rfl⟩)
 obtain⟨x1,hx1,he1⟩:=List.mem_map.1 hin
 cases he1
 rcases K.find w hkey es.toList hks with ⟨h1,h2⟩ | ⟨j,e0,h1,h2,h3⟩
 ·exact absurd rfl (h2 x1 hx1)
 ·have hv:e0.val=x1.val:=by
   obtain⟨i,hi,ei⟩:=List.mem_iff_getElem.1 hx1
   have hj:=(List.getElem?_eq_some_iff.1 h2)
   obtain⟨hj1,hj2⟩:=hj
   have g1:((es.toList.map (fun e=>(e.key,e.val))).map Prod.fst)[i]? = some x1.key:=by rw[List.getElem?_map,List.getElem?_map,List.getElem?_eq_getElem hi,ei];rfl
   have g2:((es.toList.map (fun e=>(e.key,e.val))).map Prod.fst)[j]? = some x1.key:=by rw[List.getElem?_map,List.getElem?_map,h2,←h3];rfl
   have hij:=(List.getElem?_inj (List.getElem?_eq_some_iff.1 g1).1 hd).1 (g1.trans g2.symm)
   subst hij
   rw[←hj2,ei]
  simp[Instr.lookup,run_underlying ht,MapKept.run_getObj_map hb,K.check w _ hkey,h1,Result.andThen,hv]
theorem Up.run_kind{w:World}{b:Nat}(h:Knd w b)(x y:Nat)(hx:x<256)(hy:y<256) :
  (Instr.lookup 62 (.map (some b)) (.agg #[.int .u8 (x:Int),.int .u8 (y:Int)]) false).run Tryz.prog w = .ok (.int .u8 (lk x y:Nat)) w:=by
 obtain⟨l,hm,hl⟩:=h
 obtain⟨q,hq⟩:=mark_key (x:Int) (y:Int) (by simp[Lit.wf,IntKind.min,IntKind.max,IntKind.signed,IntKind.bits];omega) (by simp[Lit.wf,IntKind.min,IntKind.max,IntKind.signed,IntKind.bits];omega)
 have yes : ∀j,j<5→(ent j).1 = .agg #[.int .u8 (x:Int),.int .u8 (y:Int)]→(ent j).2 = .int .u8 (lk x y:Nat)→
   (Instr.lookup 62 (.map (some b)) (.agg #[.int .u8 (x:Int),.int .u8 (y:Int)]) false).run Tryz.prog w = .ok (.int .u8 (lk x y:Nat)) w:=fun j hj e1 e2=>
  hm.look_yes1 mark_keyed Tryz.underlying62 hq ((hl _).2 ⟨j,hj,rfl,by rw[←e1,←e2]⟩)
 have no:(∀j,j<5→(ent j).1≠.agg #[.int .u8 (x:Int),.int .u8 (y:Int)])→lk x y=0→
   (Instr.lookup 62 (.map (some b)) (.agg #[.int .u8 (x:Int),.int .u8 (y:Int)]) false).run Tryz.prog w = .ok (.int .u8 (lk x y:Nat)) w:=fun hn h0=>by
  rw[h0]
  exact hm.look_no1 mark_keyed Tryz.underlying62 (z:=.int .u8 0) (e:=83) rfl hq (fun p hp e=>by
   obtain⟨j,hj,_,rfl⟩:=(hl p).1 hp
   exact hn j hj e)
 by_cases h1:x=1∧y=1
 ·obtain⟨rfl,rfl⟩:=h1;exact yes 0 (by omega) rfl rfl
 by_cases h2:x=2∧y=1
 ·obtain⟨rfl,rfl⟩:=h2;exact yes 1 (by omega) rfl rfl
 by_cases h3:x=3∧y=1
 ·obtain⟨rfl,rfl⟩:=h3;exact yes 2 (by omega) rfl rfl
 by_cases h4:x=4∧y=1
 ·obtain⟨rfl,rfl⟩:=h4;exact yes 3 (by omega) rfl rfl
 by_cases h5:x=4∧y=0
 ·obtain⟨rfl,rfl⟩:=h5;exact yes 4 (by omega) rfl rfl
 refine no (fun j hj e=>?_) (by unfold lk;split<;>(repeat' split)<;>omega)
 match j,hj with
 | 0,_=>simp[ent] at e;omega
 | 1,_=>simp[ent] at e;omega
 | 2,_=>simp[ent] at e;omega
 | 3,_=>simp[ent] at e;omega
 | 4,_=>simp[ent] at e;omega
end Go.Proofs.YtahiajeggbpogaaGreatDoor
