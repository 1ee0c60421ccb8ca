import Derived.Test.YtahiajeggbpogaaGreatDoorUpC
set_option maxRecDepth 100000
namespace Go.Proofs.YtahiajeggbpogaaGreatDoor
open Go.RowKit Go.ChangeMaps Px Tx Tb Up
set_option linter.unusedVariables false
set_option linter.unusedSimpArgs false
theorem infoc_m:(Tryz.prog.info? 72).map (·.size)=some 2:=by kernel_rfl
theorem mark_keyed:Maps.Keyed Tryz.prog 72:=
 Maps.Keyed.of_law (Go.deep_law_laid law_out (m:=2) (by omega) (of_decide_eq_true (by kernel_rfl)) (by kernel_rfl) (by rw[Tryz.underlying72]))
theorem mark_key(a b:Int)(ha:(Lit.int .u8 a).wf=true)(hb:(Lit.int .u8 b).wf=true) : ∃q,keyOf Tryz.prog 72 (.agg #[.int .u8 a,.int .u8 b])=some q:=by
 have hk:Tryz.prog.keyType 72=true:=by kernel_rfl
 have hc:Tryz.prog.cellsOf 72=2:=by kernel_rfl
 have hc3:Tryz.prog.cellsOf 5=1:=by kernel_rfl
 have h0:0<Tryz.prog.types.size:=of_decide_eq_true (by kernel_rfl)
 have hz : ∃m,Tryz.prog.types.size=m+1:=⟨Tryz.prog.types.size-1,by omega⟩
 obtain⟨m,hm⟩:=hz
 have hf:(Value.agg #[.int .u8 a,.int .u8 b]).formed Tryz.prog 72=true:=by simp[Value.formed,Tryz.underlying72,hc]
 have h1 : ∀x:Int,(Lit.int .u8 x).wf=true→Tryz.prog.keyLits (m+1) 5 [.int .u8 x]=some [.int .u8 x]:=fun x hx=>by
  unfold Program.keyLits
  rw[Tryz.underlying5]
  simp[hx]
 have hl:Tryz.prog.keyLits (Tryz.prog.types.size+1) 72 [.int .u8 a,.int .u8 b]=some [.int .u8 a,.int .u8 b]:=by
  rw[hm]
  unfold Program.keyLits
  rw[Tryz.underlying72]
  simp only[List.length_cons,List.length_nil,Nat.reduceAdd,hc,hc3,if_true,Nat.mul_one]
  have e0:(List.range 2)=[0,1]:=rfl
  rw[e0]
  simp only[List.mapM_cons,List.mapM_nil,List.drop_zero,List.take_succ_cons,List.take_zero,List.drop_succ_cons,h1 a ha,h1 b hb]
  rfl
 unfold keyOf
 rw[Tryz.underlying72]
 simp only[hk,hf,Bool.and_self,if_true]
 refine⟨.string (keyBytes [.int .u8 a,.int .u8 b]),?_⟩
 have e:(Value.agg #[.int .u8 a,.int .u8 b]).cells.toList=[.int .u8 a,.int .u8 b]:=rfl
 rw[e,hl]
 rfl
namespace Up
def mk(a b:Nat):Value:=.agg #[.int .u8 (a:Int),.int .u8 (b:Int)]
def ent:Nat→Value×Value
 | 0=>(.agg #[.int .u8 1,.int .u8 1],.int .u8 1)
 | 1=>(.agg #[.int .u8 2,.int .u8 1],.int .u8 2)
 | 2=>(.agg #[.int .u8 3,.int .u8 1],.int .u8 3)
 | 3=>(.agg #[.int .u8 4,.int .u8 1],.int .u8 4)
 | _=>(.agg #[.int .u8 4,.int .u8 0],.int .u8 4)
theorem ent_inj : ∀i j:Fin 5,(ent i.val).1=(ent j.val).1→i=j:=by
 intro i j h
 match i,j with
 | ⟨0,_⟩,⟨0,_⟩ | ⟨1,_⟩,⟨1,_⟩ | ⟨2,_⟩,⟨2,_⟩ | ⟨3,_⟩,⟨3,_⟩ | ⟨4,_⟩,⟨4,_⟩=>rfl
 | ⟨0,_⟩,⟨1,_⟩ | ⟨0,_⟩,⟨2,_⟩ | ⟨0,_⟩,⟨3,_⟩ | ⟨0,_⟩,⟨4,_⟩ | ⟨1,_⟩,⟨0,_⟩ | ⟨1,_⟩,⟨2,_⟩ | ⟨1,_⟩,⟨3,_⟩ | ⟨1,_⟩,⟨4,_⟩ | ⟨2,_⟩,⟨0,_⟩ | ⟨2,_⟩,⟨1,_⟩ | ⟨2,_⟩,⟨3,_⟩ | ⟨2,_⟩,⟨4,_⟩ | ⟨3,_⟩,⟨0,_⟩ | ⟨3,_⟩,⟨1,_⟩ | ⟨3,_⟩,⟨2,_⟩ | ⟨3,_⟩,⟨4,_⟩ | ⟨4,_⟩,⟨0,_⟩ | ⟨4,_⟩,⟨1,_⟩ | ⟨4,_⟩,⟨2,_⟩ | ⟨4,_⟩,⟨3,_⟩=>simp[ent] at h
def MapS(w:World)(b:Nat)(S:Nat→Bool):Prop:=∃l,MapL w Tryz.prog 72 b l∧∀p,p∈l↔∃j,j<5∧S j=true∧p=ent j
theorem ent_key(j:Nat)(hj:j<5) : ∃q,keyOf Tryz.prog 72 (ent j).1=some q:=by
 match j,hj with
 | 0,_=>exact mark_key 1 1 (by decide) (by decide)
 | 1,_=>exact mark_key 2 1 (by decide) (by decide)
 | 2,_=>exact mark_key 3 1 (by decide) (by decide)
 | 3,_=>exact mark_key 4 1 (by decide) (by decide)
 | 4,_=>exact mark_key 4 0 (by decide) (by decide)
theorem MapS.made(w:World):MapS (w.alloc (.map #[] 0)) w.heap.size (fun _=>false):=⟨[],MapL.made w _ _,fun p=>by simp⟩
theorem MapS.lt{w:World}{b:Nat}{S:Nat→Bool}(h:MapS w b S):b<w.heap.size:=by obtain⟨l,h,_⟩:=h;exact h.lt
theorem MapS.update{w:World}{b:Nat}{S:Nat→Bool}(h:MapS w b S)(j:Nat)(hj:j<5)(hS:S j=false) :
  ∃w',(Instr.mapUpdate 62 (.map (some b)) (ent j).1 (ent j).2).run Tryz.prog w = .ok () w'∧MapS w' b (fun x=>x==j||S x)∧w.grownBy w' (some b):=by
 obtain⟨l,hm,hl⟩:=h
 obtain⟨q,hq⟩:=ent_key j hj
 obtain⟨w',h1,h2,h3⟩:=hm.update mark_keyed Tryz.underlying62 hq (fun p hp e=>by
  obtain⟨i,hi,hSi,rfl⟩:=(hl p).1 hp
  have:=ent_inj ⟨i,hi⟩ ⟨j,hj⟩ e
  simp only[Fin.mk.injEq] at this
  subst this
  rw[hS] at hSi
  cases hSi) (ent j).2
 refine⟨w',h1,⟨_,h2,fun p=>?_⟩,h3⟩
 rw[List.mem_append,List.mem_singleton,hl p]
 constructor
 ·rintro (⟨i,hi,hSi,rfl⟩ | rfl)
  ·exact⟨i,hi,by simp[hSi],rfl⟩
  ·exact⟨j,hj,by simp,rfl⟩
 ·rintro ⟨i,hi,hSi,rfl⟩
  simp only[Bool.or_eq_true,beq_iff_eq] at hSi
  rcases hSi with rfl | hSi
  ·exact .inr rfl
  ·exact .inl ⟨i,hi,hSi,rfl⟩
def Knd(w:World)(b:Nat):Prop:=MapS w b (fun _=>true)
theorem MapS.all{w:World}{b:Nat}{S:Nat→Bool}(h:MapS w b S)(hS : ∀j,j<5→S j=true):Knd w b:=by
 obtain⟨l,hm,hl⟩:=h
 refine⟨l,hm,fun p=>(hl p).trans ?_⟩
 constructor
 ·rintro ⟨j,hj,_,e⟩;exact⟨j,hj,rfl,e⟩
 ·rintro ⟨j,hj,_,e⟩;exact⟨j,hj,hS j hj,e⟩
def kF(b:Nat):Fact where
 on k:=k=b
 is w:=Knd w b
 dep w w' h hz hk:=by
  obtain⟨l,hm,hl⟩:=h
  exact⟨l,hm.same (hk b rfl),hl⟩
end Up
end Go.Proofs.YtahiajeggbpogaaGreatDoor
