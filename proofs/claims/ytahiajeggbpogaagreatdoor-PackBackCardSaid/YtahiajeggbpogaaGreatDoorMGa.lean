import Derived.Below
import Derived.Laws.OwnMore
import Derived.Deep.AppendLies
import Derived.Deep.Draws
import Derived.Laws.Rows
import Derived.WalkKit
import Derived.Lib.Hide
import Derived.WalkMore
import Derived.ScopeJumps
import Derived.Laws.AppendOwnNone
import Derived.RegionTactic
import Derived.RangeFuncRecord
import Derived.Laws.BytesArg
import Derived.Test.YtahiajeggbpogaaGreatDoorRows
import Derived.Maps.AppendAt
import Derived.Deep.SlicePairs
import Derived.RangeFuncNested
import Derived.RangeFuncBound
import Derived.RangeFuncCalls
import Derived.RangeFuncLeaves
import Derived.Shelf.Abstract
import Derived.Shelf.RegionOpen
import Derived.OwnWalkIn
import Derived.TacticsInMore
import Derived.LoopNIn
import Derived.LoopIn
import Derived.Laws.Tables
import Derived.Deep.MidRow
import Derived.Maps.Own
import Derived.ProofKit
import Derived.OpenShut
import Derived.Deep.RegionHeld
import Derived.Laws.MakeOwn
import Derived.BigQuiet
import Derived.Lib.SmallJoins
import Derived.SizedLaws
namespace Go.Proofs.YtahiajeggbpogaaGreatDoor.Oct
def takeB(l:List UInt8):Nat:=l.foldl (fun a x=>a*256+x.toNat) 0
theorem takeB_snoc(l:List UInt8)(x:UInt8):takeB (l++[x])=takeB l*256+x.toNat:=by simp[takeB]
theorem foldB_lt(l:List UInt8) : ∀a:Nat,l.foldl (fun a x=>a*256+x.toNat) a<(a+1)*256 ^ l.length:=by
 induction l with
 | nil=>intro a;simp
 | cons x l ih=>
  intro a
  have h:=ih (a*256+x.toNat)
  have hx:=x.toNat_lt
  rw[List.foldl_cons,List.length_cons,Nat.pow_succ,Nat.mul_comm (256 ^ l.length) 256,←Nat.mul_assoc]
  refine Nat.lt_of_lt_of_le h (Nat.mul_le_mul_right _ ?_)
  omega
theorem takeB_lt(l:List UInt8):takeB l<256 ^ l.length:=by
 have:=foldB_lt l 0
 rw[Nat.zero_add,Nat.one_mul] at this
 exact this
end Go.Proofs.YtahiajeggbpogaaGreatDoor.Oct
namespace Go.Proofs.YtahiajeggbpogaaGreatDoor.Oct
def bitOf(xs:List UInt8)(i:Nat):Nat:=(xs[i / 8]?.getD 0).toNat / 2 ^ (7-i % 8) % 2
def codeOf(xs:List UInt8)(i:Nat):Nat→Nat
 | 0=>0
 | k+1=>2*codeOf xs i k+bitOf xs (i+k)
theorem bitOf_lt(xs:List UInt8)(i:Nat):bitOf xs i<2:=Nat.mod_lt _ (by decide)
theorem codeOf_lt(xs:List UInt8)(i k:Nat):codeOf xs i k<2 ^ k:=by
 induction k with
 | zero=>simp[codeOf]
 | succ k ih=>have:=bitOf_lt xs (i+k);rw[codeOf,Nat.pow_succ];omega
theorem codeOf_add(xs:List UInt8)(i j k:Nat):codeOf xs i (j+k)=codeOf xs i j*2 ^ k+codeOf xs (i+j) k:=by
 induction k with
 | zero=>simp[codeOf]
 | succ k ih=>rw[←Nat.add_assoc,codeOf,ih,codeOf,Nat.pow_succ,Nat.add_assoc i j k];rw[Nat.mul_add,←Nat.mul_assoc,Nat.mul_comm 2 (codeOf xs i j)];rw[Nat.mul_assoc (codeOf xs i j) 2,Nat.mul_comm 2 (2 ^ k)];omega
theorem codeOf_bit(xs:List UInt8)(i k t:Nat)(h:t<k):codeOf xs i k / 2 ^ (k-1-t) % 2=bitOf xs (i+t):=by
 obtain⟨m,rfl⟩ : ∃m,k=t+1+m:=⟨k-1-t,by omega⟩
 have e:t+1+m-1-t=m:=by omega
 rw[e,codeOf_add,Nat.mul_comm,Nat.mul_add_div (Nat.two_pow_pos m),Nat.div_eq_of_lt (codeOf_lt _ _ _),codeOf]
 have:=bitOf_lt xs (i+t)
 omega
theorem codeOf_eq{xs:List UInt8}{i k c:Nat}(hc:c<2 ^ k)(h : ∀t,t<k→bitOf xs (i+t)=c / 2 ^ (k-1-t) % 2):codeOf xs i k=c:=by
 induction k generalizing c with
 | zero=>simp at hc;subst hc;rfl
 | succ k ih=>
  have h1:=h k (by omega)
  have e:k+1-1-k=0:=by omega
  rw[e,Nat.pow_zero,Nat.div_one] at h1
  rw[codeOf,ih (c:=c / 2) (by rw[Nat.pow_succ] at hc;omega),h1]
  ·omega
  ·intro t ht
   rw[h t (by omega),Nat.div_div_eq_div_mul,←Nat.pow_succ']
   have:k+1-1-t=k-1-t+1:=by omega
   rw[this]
theorem byte_ext{x y:Nat}(hx:x<256)(hy:y<256)(h : ∀i,i<8→x / 2 ^ (7-i) % 2=y / 2 ^ (7-i) % 2):x=y:=by
 have h0:=h 0 (by omega);have h1:=h 1 (by omega);have h2:=h 2 (by omega);have h3:=h 3 (by omega)
 have h4:=h 4 (by omega);have h5:=h 5 (by omega);have h6:=h 6 (by omega);have h7:=h 7 (by omega)
 simp only[Nat.reduceSub,Nat.reducePow] at *
 omega
theorem bitOf_at(xs:List UInt8)(j i:Nat)(hi:i<8):bitOf xs (8*j+i)=(xs[j]?.getD 0).toNat / 2 ^ (7-i) % 2:=by
 unfold bitOf
 have e1:(8*j+i) / 8=j:=by omega
 have e2:(8*j+i) % 8=i:=by omega
 rw[e1,e2]
theorem list_ext{xs ys:List UInt8}(hl:xs.length=ys.length)(h : ∀i,i<8*xs.length→bitOf xs i=bitOf ys i):xs=ys:=by
 apply List.ext_getElem hl
 intro j h1 h2
 apply UInt8.toNat_inj.1
 refine byte_ext (UInt8.toNat_lt _) (UInt8.toNat_lt _) fun i hi=>?_
 have:=h (8*j+i) (by omega)
 rw[bitOf_at _ _ _ hi,bitOf_at _ _ _ hi,List.getElem?_eq_getElem h1,List.getElem?_eq_getElem h2] at this
 simpa using this
def layBit(xs:List UInt8)(used c k i:Nat):Nat:=
 if i<used then bitOf xs i else if i<used+k then c / 2 ^ (used+k-1-i) % 2 else 0
def IsLaid(xs:List UInt8)(used c k:Nat)(o:List UInt8):Prop:=
 o.length=(used+k+7) / 8∧∀i,i<8*o.length→bitOf o i=layBit xs used c k i
end Go.Proofs.YtahiajeggbpogaaGreatDoor.Oct
namespace Go.Proofs.YtahiajeggbpogaaGreatDoor
open Go.RowKit
def Bs(w:World)(B:Nat)(A:Option Addr)(n:Nat)(xs:List UInt8):Prop:=
 xs.length=n∧(0<n→∃b o,A=some ⟨b,o,none⟩∧b<B∧∀j,j<n→w.cell? ⟨b,o+j,none⟩=some (.int .u8 ((xs[j]?.getD 0).toNat:Int)))
section
variable {w w':World}{B B' n:Nat}{A:Option Addr}{xs:List UInt8}
theorem Bs.len(h:Bs w B A n xs):xs.length=n:=h.1
theorem Bs.none_:Bs w B A 0 []:=⟨rfl,fun h=>absurd h (by omega)⟩
theorem Bs.keep(h:Bs w B A n xs)(hk : ∀p:Addr,p.block<B→w'.cell? p=w.cell? p):Bs w' B A n xs:=
 ⟨h.1,fun hn=>by
  obtain⟨b,o,e,hb,hc⟩:=h.2 hn
  exact⟨b,o,e,hb,fun j hj=>(hk _ hb).trans (hc j hj)⟩⟩
theorem Bs.more(h:Bs w B A n xs)(hB:B≤B'):Bs w B' A n xs:=
 ⟨h.1,fun hn=>by
  obtain⟨b,o,e,hb,hc⟩:=h.2 hn
  exact⟨b,o,e,by omega,hc⟩⟩
theorem Bs.take(h:Bs w B A n xs){k:Nat}(hk:k≤n):Bs w B A k (xs.take k):=
 ⟨by rw[List.length_take,h.1];omega,fun hn=>by
  obtain⟨b,o,e,hb,hc⟩:=h.2 (by omega)
  refine⟨b,o,e,hb,fun j hj=>?_⟩
  rw[List.getElem?_take_of_lt hj]
  exact hc j (by omega)⟩
theorem Bs.below(h:Bs w B A n xs)(hb:Below B w w'):Bs w' B A n xs:=h.keep fun _ hp=>hb.cell hp
theorem Bs.alloc(h:Bs w B A n xs)(hB:B≤w.heap.size)(o:Obj):Bs (w.alloc o) B A n xs:=h.keep fun p hp=>World.cell?_alloc_lt w o p (by omega)
theorem Bs.drew(h:Bs w B A n xs):Bs w.drew B A n xs:=h
theorem Bs.setCell(h:Bs w B A n xs){p:Addr}(hB:B≤p.block)(u:Value):Bs (w.setCell p u) B A n xs:=
 h.keep fun q hq=>World.cell?_setCell_other w p q u (fun e=>by subst e;omega)
end
def bv(x:UInt8):Value:=.int .u8 (x.toNat:Int)
theorem bv_one(l:List UInt8) : ∀u∈l.map bv,u.oneCell'=true:=by
 intro u hu
 obtain⟨x,_,rfl⟩:=List.mem_map.1 hu
 rfl
def OwnB(w:World)(B:Nat)(t:TypeId)(v:Value)(xs:List UInt8):Prop:=w.ownsRow B t 1 v xs.length (xs.map bv)
theorem OwnB.nil_(w:World)(B:Nat)(t:TypeId):OwnB w B t (.slice none 0 0) []:=World.ownsRow_nil w B t 1
theorem OwnB.kept{w w':World}{B:Nat}{t:TypeId}{v:Value}{xs:List UInt8}(h:OwnB w B t v xs)(hb:Below w.heap.size w w'):OwnB w' B t v xs:=
 World.ownsRow.kept h (row:=none) ⟨hb.os,hb.tape,hb.output,hb.size,fun k hk _=>hb.block k hk⟩ (by cases h':v.ownBlock<;>simp)
theorem OwnB.less{w:World}{B B':Nat}{t:TypeId}{v:Value}{xs:List UInt8}(h:OwnB w B t v xs)(hB:B'≤B):OwnB w B' t v xs:=by
 refine⟨h.1,?_⟩
 rcases h.2 with h2 | ⟨g,cap,cur,e,hg,rest⟩
 ·exact .inl h2
 ·exact .inr ⟨g,cap,cur,e,by omega,rest⟩
theorem OwnB.form{w:World}{B:Nat}{t:TypeId}{v:Value}{xs:List UInt8}(h:OwnB w B t v xs) :
  ∃A c,v = .slice A xs.length c∧xs.length≤c∧(A=none→xs=[])∧(∀a,A=some a→∃g,a=⟨g,0,none⟩∧B≤g∧g<w.heap.size)∧Bs w w.heap.size A xs.length xs:=by
 rcases h.2 with ⟨rfl,h0⟩ | ⟨g,cap,cur,rfl,hBg,hg,hle,hmax,hs,htake⟩
 ·have:xs=[]:=List.eq_nil_of_length_eq_zero h0
  subst this
  exact⟨none,0,rfl,Nat.le_refl _,fun _=>rfl,fun a h=>(by cases h),Bs.none_⟩
 ·have hlt:g<w.heap.size:=(Array.getElem?_eq_some_iff.1 hg).1
  refine⟨_,cap,rfl,hle,fun h=>(by cases h),fun a h=>⟨g,(by cases h;rfl),hBg,hlt⟩,rfl,fun hn=>⟨g,0,rfl,hlt,fun j hj=>?_⟩⟩
  have hc:=World.ownsRow.cellAt (base:=B) (e:=t) (size:=1) (cap:=cap) (xs:=xs.map bv) (w:=w) (g:=g) (n:=xs.length) ⟨by simp,.inr ⟨g,cap,cur,rfl,hBg,hg,hle,hmax,hs,htake⟩⟩ j (by omega)
  rw[Nat.zero_add,hc,List.getElem?_map,List.getElem?_eq_getElem hj]
  rfl
theorem wp_scope_forward{P:Program}{a:Act}{w:World}{Q:Exit→Act→World→Prop}{c rest:Code}(l:Nat)(hf:findLabel c l=some rest)
  (h:c.wp P (Exit.jump l (fun a w=>rest.wp P (Exit.jump l (fun _ _=>False) Q) a w) Q) a w):(Code.scope c).wp P Q a w:=by
 intro b k cs
 have hg:gotoIn l (.inScope c::k)=some (.code rest :: .inScope c::k):=by simp[gotoIn,hf]
 obtain⟨e,a₁,w₁,hq,harr⟩:=h b (.inScope c::k) cs
 cases e with
 | normal=>exact⟨.normal,a₁,w₁,hq,.head step_scope (Steps.trans harr (.one step_inScope))⟩
 | exit id=>exact⟨.exit id,a₁,w₁,hq,fun k' hk=>.head step_scope (harr k' (by simp[exitTo,hk]))⟩
 | goto l'=>
  obtain⟨rfl,hJ'⟩:=hq
  obtain⟨e₂,a₂,w₂,hq₂,harr₂⟩:=hJ' b (.inScope c::k) cs
  cases e₂ with
  | normal=>exact⟨.normal,a₂,w₂,hq₂,.head step_scope (Steps.trans (harr _ hg) (Steps.trans harr₂ (.one step_inScope)))⟩
  | exit id=>exact⟨.exit id,a₂,w₂,hq₂,fun k' hk=>.head step_scope (Steps.trans (harr _ hg) (harr₂ k' (by simp[exitTo,hk])))⟩
  | goto l''=>exact hq₂.2.elim
  | ret=>exact⟨_,a₂,w₂,hq₂,.of_steps (.one step_scope) (.of_steps (harr _ hg) harr₂)⟩
  | panic ch=>exact⟨_,a₂,w₂,hq₂,.of_steps (.one step_scope) (.of_steps (harr _ hg) harr₂)⟩
  | outgrown=>exact⟨_,a₂,w₂,hq₂,.of_steps (.one step_scope) (.of_steps (harr _ hg) harr₂)⟩
 | ret=>exact⟨_,a₁,w₁,hq,.of_steps (.one step_scope) harr⟩
 | panic ch=>exact⟨_,a₁,w₁,hq,.of_steps (.one step_scope) harr⟩
 | outgrown=>exact⟨_,a₁,w₁,hq,.of_steps (.one step_scope) harr⟩
theorem bs_cell{w:World}{B n:Nat}{A:Option Addr}{xs:List UInt8}(h:Bs w B A n xs)(hn:0<n) :
  ∃b o,A=some ⟨b,o,none⟩∧b<B∧∀j,j<n→∃x,xs[j]? = some x∧w.cell? ⟨b,o+j,none⟩=some (.int .u8 (x.toNat:Int)):=by
 obtain⟨b,o,e,hb,hc⟩:=h.2 hn
 refine⟨b,o,e,hb,fun j hj=>?_⟩
 have hl:j<xs.length:=by have:=h.1;omega
 have:=hc j hj
 rw[List.getElem?_eq_getElem hl,Option.getD_some] at this
 exact⟨xs[j],List.getElem?_eq_getElem hl,this⟩
@[go_sem] theorem jump_normal (l:Nat) (J:Act→World→Prop) (Q:Exit→Act→World→Prop) (a:Act) (w:World):Exit.jump l J Q .normal a w=Q .normal a w:=rfl
@[go_sem] theorem jump_exit (l:Nat) (J:Act→World→Prop) (Q:Exit→Act→World→Prop) (id:Nat) (a:Act) (w:World):Exit.jump l J Q (.exit id) a w=Q (.exit id) a w:=rfl
@[go_sem] theorem jump_ret (l:Nat) (J:Act→World→Prop) (Q:Exit→Act→World→Prop) (a:Act) (w:World):Exit.jump l J Q .ret a w=Q .ret a w:=rfl
theorem ret_int{k:IntKind}{a b:Int}(h:a=b):Ending.returned (.int k a) = .returned (.int k b):=by rw[h]
theorem ret_int2{k:IntKind}{a b:Int}{v:Value}(h:a=b):Ending.returned (.tuple #[.int k a,v]) = .returned (.tuple #[.int k b,v]):=by rw[h]
def RowB(w:World)(g:Nat)(t:TypeId)(ys:List UInt8):Prop:=w.heap[g]? = some (.cells (ys.map bv).toArray t (0,0))
section
variable {w w':World}{g:Nat}{t:TypeId}{ys:List UInt8}
theorem RowB.lt(h:RowB w g t ys):g<w.heap.size:=(Array.getElem?_eq_some_iff.1 h).1
theorem RowB.cell(h:RowB w g t ys){j:Nat}{x:UInt8}(hj:ys[j]? = some x):w.cell? ⟨g,j,none⟩=some (.int .u8 (x.toNat:Int)):=by
 have h1:=cell_of_row w g j _ t (0,0) h
 rw[h1]
 simp[hj,bv]
theorem RowB.frozen(h:RowB w g t ys)(j:Nat):w.frozen? ⟨g,j,none⟩=false:=by
 unfold RowB at h
 simp[World.frozen?,h]
theorem RowB.set_(h:RowB w g t ys)(j:Nat)(z:UInt8):RowB (w.setCell ⟨g,j,none⟩ (.int .u8 (z.toNat:Int))) g t (ys.set j z):=by
 unfold RowB at h ⊢
 simp[World.setCell,Array.getElem?_modify,h,List.map_set,bv]
theorem RowB.same(h:RowB w g t ys)(hb:w'.heap[g]? = w.heap[g]?):RowB w' g t ys:=hb.trans h
theorem RowB.of_own{B:Nat}{n:Nat}{l:List UInt8}(h:w.ownsRow B t 1 (.slice (some ⟨g,0,none⟩) n n) n (l.map bv)):RowB w g t l:=by
 rcases h.2 with ⟨h1,_⟩ | ⟨g',cap,cur,h1,_,hg,_,_,hs,ht⟩
 ·cases h1
 ·cases h1
  have hl:cur.toList.length=n:=by simpa using hs
  have:cur.toList=l.map bv:=by rw[←ht];exact(List.take_of_length_le (by omega)).symm
  unfold RowB
  rw[hg,←this]
theorem RowB.own{B:Nat}(h:RowB w g t ys)(hB:B≤g)(hm:ys.length≤maxLen):OwnB w B t (.slice (some ⟨g,0,none⟩) ys.length ys.length) ys:=
 ⟨by simp,.inr ⟨g,ys.length,_,rfl,hB,h,Nat.le_refl _,hm,by simp,by simp[List.take_of_length_le]⟩⟩
theorem RowB.bs(h:RowB w g t ys):Bs w w.heap.size (some ⟨g,0,none⟩) ys.length ys:=
 ⟨rfl,fun _=>⟨g,0,rfl,h.lt,fun j hj=>by rw[Nat.zero_add];exact(h.cell (List.getElem?_eq_getElem hj)).trans (by simp[hj])⟩⟩
end
structure Turn (p:Nat→Prop) (w w':World):Prop where
 os:w'.os=w.os
 tape:w'.tape=w.tape
 output:w'.output=w.output
 size:w.heap.size≤w'.heap.size
 block : ∀k,k<w.heap.size→¬p k→w'.heap[k]? = w.heap[k]?
section
variable {p q:Nat→Prop}{a b c:World}
theorem Turn.refl(p:Nat→Prop)(w:World):Turn p w w:=⟨rfl,rfl,rfl,Nat.le_refl _,fun _ _ _=>rfl⟩
theorem Turn.trans(h:Turn p a b)(k:Turn p b c):Turn p a c:=⟨k.os.trans h.os,k.tape.trans h.tape,k.output.trans h.output,Nat.le_trans h.size k.size,fun i hi hp=>(k.block i (Nat.lt_of_lt_of_le hi h.size) hp).trans (h.block i hi hp)⟩
theorem Turn.mono(h:Turn p a b)(hpq : ∀k,k<a.heap.size→p k→q k):Turn q a b:=⟨h.os,h.tape,h.output,h.size,fun k hk hq=>h.block k hk (fun hp=>hq (hpq k hk hp))⟩
theorem Turn.drew(h:Turn p a b):Turn p a b.drew:=h.trans ⟨rfl,rfl,rfl,Nat.le_refl _,fun _ _ _=>rfl⟩
theorem Turn.drewN(h:Turn p a b)(n:Nat):Turn p a (b.drewN n):=h.trans ⟨rfl,rfl,rfl,Nat.le_refl _,fun _ _ _=>rfl⟩
theorem Turn.setCell(h:Turn p a b){x:Addr}(hx:p x.block)(u:Value):Turn p a (b.setCell x u):=
 h.trans ⟨rfl,rfl,rfl,by simp[World.setCell],fun k _ hp=>Below.heap_setCell _ _ _ _ (fun e=>hp (e ▸ hx))⟩
theorem Turn.alloc(h:Turn p a b)(o:Obj):Turn p a (b.alloc o):=h.trans ⟨rfl,rfl,rfl,by simp,fun k hk _=>Below.heap_alloc _ _ _ hk⟩
theorem Turn.below{B:Nat}(h:Turn p a b)(hB:B≤a.heap.size)(hp : ∀k,p k→B≤k):Below B a b:=⟨h.os,h.tape,h.output,h.size,fun k hk=>h.block k (by omega) (fun hpk=>by have:=hp k hpk;omega)⟩
end
theorem wp_append_bytes{P:Program}(w:World){o:Oper}{a:Act}{K:Act→World→Prop}{Q:Exit→Act→World→Prop}(s x:Operand)(t:TypeId)
  (ho:o.op = .call { callee:=.builtin .append,args:=#[s,x],argTypes:=#[t,t] })
  (base:Nat) (e:TypeId) (i:TypeInfo) (ht:P.underlying t=some (.slice e)) (hi:P.info? e=some i) (hz:i.zero=some (.int .u8 0)) (hsize:i.size=1) (hby:i.bytes=1)
  (v:Value) (ys:List UInt8) (hs:a.eval s=v) (hown:OwnB w base e v ys)
  (B:Nat) (A:Option Addr) (m c:Nat) (xs:List UInt8) (hx:a.eval x = .slice A m c) (hr:Bs w B A m xs) (hnone:A=none→c=0)
  (hlen:ys.length+m≤1000000) (hbase:base≤w.heap.size)
  (h : ∀v' w',OwnB w' base e v' (ys++xs)→Below base w w'→K (a.put o.dst v') w'):o.wp P a w K Q:=by
 rcases A with _ | ad
 ·obtain rfl:=hnone rfl
  have hm:m=0:=by
   rcases Nat.eq_zero_or_pos m with h0 | h0
   ·exact h0
   ·obtain⟨b,o',h1,_⟩:=hr.2 h0
    cases h1
  subst hm
  have hn:xs=[]:=List.eq_nil_of_length_eq_zero hr.1
  subst hn
  have hrun:=run_append_owned_none (P:=P) (w:=w) base t o.type e i 1 ht hi v ys.length _ hown
  unfold Oper.wp
  simp[execOp,ho,resolve,invoke,builtin,hs,hx,hrun,Result.andThen]
  exact h v w (by simpa using hown) (Below.refl _ _)
 ·have hcells : ∀j u,(xs.map bv)[j]? = some u→w.cell? (ad.add j)=some u:=by
   intro j u hu
   rcases Nat.eq_zero_or_pos m with h0 | h0
   ·subst h0
    have hn:xs=[]:=List.eq_nil_of_length_eq_zero hr.1
    subst hn
    simp at hu
   ·obtain⟨b,o',h1,_,hc⟩:=bs_cell hr h0
    cases h1
    have hj:j<m:=by
     have:=(List.getElem?_eq_some_iff.1 hu).1
     have h2:=hr.1
     simp at this
     omega
    obtain⟨y,hy,hcy⟩:=hc j hj
    rw[List.getElem?_map,hy] at hu
    cases hu
    rw[Addr.add_lit]
    exact hcy
  refine wp_append_own w s x t ho base e i (.int .u8 0) 1 1 ht hi hz hsize hby rfl (by decide) v ys.length _ hs hown ad m c (xs.map bv) hx (by rw[List.length_map,hr.1,Nat.mul_one]) hcells (bv_one xs) (by unfold maxLen;omega) (by omega) hbase ?_
  intro v' w' hown' hg _
  refine h v' w' ?_ ((Below.refl base w).grown hg hbase (fun k hk=>(World.ownsRow.lt hown k hk).1))
  unfold OwnB
  rw[List.map_append,List.length_append,hr.1]
  exact hown'
theorem wpList_append_bytes{P:Program}(w:World){ops:Array Oper}{rest:List Oper}{o:Oper}{a:Act}{Q:Exit→Act→World→Prop}(hgd:o.guard=none)(s x:Operand)(t:TypeId)
  (ho:o.op = .call { callee:=.builtin .append,args:=#[s,x],argTypes:=#[t,t] })
  (base:Nat) (e:TypeId) (i:TypeInfo) (ht:P.underlying t=some (.slice e)) (hi:P.info? e=some i) (hz:i.zero=some (.int .u8 0)) (hsize:i.size=1) (hby:i.bytes=1)
  (v:Value) (ys:List UInt8) (hs:a.eval s=v) (hown:OwnB w base e v ys)
  (B:Nat) (A:Option Addr) (m c:Nat) (xs:List UInt8) (hx:a.eval x = .slice A m c) (hr:Bs w B A m xs) (hnone:A=none→c=0)
  (hlen:ys.length+m≤1000000) (hbase:base≤w.heap.size)
  (h : ∀v' w',OwnB w' base e v' (ys++xs)→Below base w w'→wpList P ops Q rest (a.put o.dst v') w'):wpList P ops Q (o::rest) a w:=
 wpList_plain hgd fun _ hK=>wp_append_bytes w s x t ho base e i ht hi hz hsize hby v ys hs hown B A m c xs hx hr hnone hlen hbase fun v' w' h2 h3=>hK _ _ (h v' w' h2 h3)
theorem step_append_bytes{P:Program}{ops:Array Oper}(w:World){o:Oper}{a:Act}{K:Act→World→Prop}{Q:Exit→Act→World→Prop}{E:Prop}(hgd:o.guard=none)(s x:Operand)(t:TypeId)
  (ho:o.op = .call { callee:=.builtin .append,args:=#[s,x],argTypes:=#[t,t] })
  (base:Nat) (e:TypeId) (i:TypeInfo) (ht:P.underlying t=some (.slice e)) (hi:P.info? e=some i) (hz:i.zero=some (.int .u8 0)) (hsize:i.size=1) (hby:i.bytes=1)
  (v:Value) (ys:List UInt8) (hs:a.eval s=v) (hown:OwnB w base e v ys)
  (B:Nat) (A:Option Addr) (m c:Nat) (xs:List UInt8) (hx:a.eval x = .slice A m c) (hr:Bs w B A m xs) (hnone:A=none→c=0)
  (hlen:ys.length+m≤1000000) (hbase:base≤w.heap.size)
  (h : ∀v' w',OwnB w' base e v' (ys++xs)→Below base w w'→K (a.put o.dst v') w'):if Region.wanted o (yielded ops a.tmps)=true then Oper.wp P o a w K Q else E:=by
 have hw:Region.wanted o (yielded ops a.tmps)=true:=by simp[Region.wanted,hgd]
 rw[if_pos hw]
 exact wp_append_bytes w s x t ho base e i ht hi hz hsize hby v ys hs hown B A m c xs hx hr hnone hlen hbase h
theorem OwnB.lit(w:World)(t:TypeId)(B:Nat)(hB:B≤w.heap.size):OwnB (w.alloc (.cells #[] t)) B t (.slice (some ⟨w.heap.size,0,none⟩) 0 0) []:=
 ⟨by simp,.inr ⟨w.heap.size,0,#[],rfl,hB,World.alloc_heap_new w _,Nat.le_refl _,by simp,rfl,rfl⟩⟩
theorem OwnB.cap{w:World}{B:Nat}{t:TypeId}{xs:List UInt8}{n c:Nat}(h:OwnB w B t (.slice none n c) xs):c=0:=by
 rcases h.2 with ⟨h1,_⟩ | ⟨g,cap,cur,h1,_⟩
 ·cases h1;rfl
 ·cases h1
theorem OwnB.form2{w:World}{B n:Nat}{t:TypeId}{v:Value}{xs:List UInt8}(h:OwnB w B t v xs)(hl:xs.length=n) :
  ∃A c,v = .slice A n c∧n≤c∧(A=none→c=0)∧Bs w w.heap.size A n xs:=by
 subst hl
 obtain⟨A,c,rfl,hle,_,_,hb⟩:=h.form
 exact⟨A,c,rfl,hle,fun hA=>by subst hA;exact h.cap,hb⟩
theorem OwnB.at_{w:World}{B:Nat}{t:TypeId}{A:Option Addr}{n c:Nat}{zs:List UInt8}(h:OwnB w B t (.slice A n c) zs){j:Nat}(hj:j<zs.length) :
  ∃g,A=some ⟨g,0,none⟩∧B≤g∧g<w.heap.size∧n≤c∧w.cell? ⟨g,j,none⟩=some (.int .u8 ((zs[j]'hj).toNat:Int))∧w.frozen? ⟨g,j,none⟩=false∧
   ∀z:UInt8,OwnB (w.setCell ⟨g,j,none⟩ (.int .u8 (z.toNat:Int))) B t (.slice A n c) (zs.set j z):=by
 have hn:n=zs.length:=by
  rcases h.2 with ⟨h1,h2⟩ | ⟨g,cap,cur,h1,_⟩
  ·omega
  ·cases h1;rfl
 subst hn
 rcases h.2 with ⟨h1,h2⟩ | ⟨g,cap,cur,h1,hB,hg,hle,hmax,hs,ht⟩
 ·omega
 ·cases h1
  have hw:w.ownsRow B t 1 (.slice (some ⟨g,0,none⟩) zs.length c) zs.length (zs.map bv):=h
  refine⟨g,rfl,hB,(Array.getElem?_eq_some_iff.1 hg).1,hle,?_,World.ownsRow.frozenAt hw j,fun z=>?_⟩
  ·rw[World.ownsRow.cellAt hw j (by omega),List.getElem?_map,List.getElem?_eq_getElem hj];rfl
  ·have hst:=(World.ownsRow.stored hw j (bv z)).1
   unfold OwnB
   rw[List.length_set,List.map_set]
   exact hst
theorem bs_lit(w:World)(t:TypeId)(xs:List UInt8)(cs:Array Value)(g:Nat)(hg:w.heap.size=g)(h:(xs.map bv).toArray=cs):Bs (w.alloc (.cells cs t)) (g+1) (some ⟨g,0,none⟩) xs.length xs:=by
 subst h
 subst hg
 have:=(RowB.bs (w:=w.alloc (.cells (xs.map bv).toArray t)) (g:=w.heap.size) (t:=t) (ys:=xs) (World.alloc_heap_new w _))
 rw[World.size_alloc] at this
 exact this
def Hands(v:Value)(W:World)(ys:List UInt8):Prop:=∃A n c,v = .slice A n c∧Bs W W.heap.size A n ys
theorem Hands.nil_(W:World):Hands (.slice none 0 0) W []:=⟨none,0,0,rfl,Bs.none_⟩
theorem Bs.on{w w':World}{A:Option Addr}{n:Nat}{xs:List UInt8}(h:Bs w w.heap.size A n xs)(hb:Below w.heap.size w w'):Bs w' w'.heap.size A n xs:=(h.below hb).more hb.size
end Go.Proofs.YtahiajeggbpogaaGreatDoor
namespace Go.Proofs.YtahiajeggbpogaaGreatDoor
open Go.RowKit
theorem strOf_bytes(xs:List UInt8):strOfNums (xs.map fun x=>(x.toNat:Int))=⟨xs.toArray⟩:=by
 apply ByteArray.ext
 apply Array.toList_inj.1
 rw[strOfNums_data,List.map_map]
 have:((fun n:Int=>UInt8.ofNat n.toNat) ∘ fun x:UInt8=>(x.toNat:Int))=id:=by funext x;simp
 rw[this,List.map_id]
theorem conv_bytes{w:World}{B n c:Nat}{A:Option Addr}{xs:List UInt8}(h:Bs w B A n xs) :
  (convert 25 9 (.slice A n c)).run Tryz.prog w = .ok (.string ⟨xs.toArray⟩) w:=by
 rcases Nat.eq_zero_or_pos n with h0 | h0
 ·subst h0
  have:xs=[]:=List.eq_nil_of_length_eq_zero h.1
  subst this
  cases A with
  | none=>exact run_convert_bytes_nil (P:=Tryz.prog) w 25 5 Tryz.underlying25 Tryz.underlying5 0 c 9 Tryz.underlying9
  | some a=>
   have hl:(loadCells a 0).run Tryz.prog w = .ok (([]:List Int).map (Value.int .u8)).toArray w:=run_loadCells_list (P:=Tryz.prog) w a [] (fun j v hj=>by simp at hj)
   rw[run_convert_bytes_string w 25 9 5 (some a) 0 c Tryz.underlying25 Tryz.underlying5 Tryz.underlying9,run_bytesToString w a 0 c [] hl]
   rfl
 ·obtain⟨b,o,rfl,_,hc⟩:=h.2 h0
  have hx:=run_convert_bytes_arg (P:=Tryz.prog) w 25 5 Tryz.underlying25 Tryz.underlying5 b o n c (xs.map fun x=>(x.toNat:Int)) (by simp[h.1]) (fun j hj=>by
   have hjx:j<xs.length:=by rw[h.1];exact hj
   rw[hc j hj]
   simp[hjx]) 9 Tryz.underlying9
  rw[strOf_bytes] at hx
  exact hx
theorem info_u8:(Tryz.prog.info? 5).map (fun i=>(i.zero,i.size,i.bytes))=some (some (.int .u8 0),1,1):=by kernel_rfl
end Go.Proofs.YtahiajeggbpogaaGreatDoor
namespace Go.Proofs.YtahiajeggbpogaaGreatDoor
open Go.RowKit
theorem OwnB.alloc{w:World}{B:Nat}{t:TypeId}{v:Value}{xs:List UInt8}(h:OwnB w B t v xs)(o:Obj):OwnB (w.alloc o) B t v xs:=h.kept ((Below.refl _ w).alloc (Nat.le_refl _) o)
theorem Bs.grown{w w':World}{B n:Nat}{A:Option Addr}{xs:List UInt8}{row:Option Nat}(h:Bs w B A n xs)(hg:w.grownBy w' row)(hB:B≤w.heap.size)(hne : ∀b o,A=some ⟨b,o,none⟩→row≠some b):Bs w' B A n xs:=
 ⟨h.1,fun hn=>by
  obtain⟨b,o,e,hb,hc⟩:=h.2 hn
  exact⟨b,o,e,hb,fun j hj=>(World.cell?_of_block (hg.block b (by omega) (fun e2=>hne b o e e2.symm))).trans (hc j hj)⟩⟩
theorem OwnB.block{w:World}{B:Nat}{t:TypeId}{v:Value}{xs:List UInt8}(h:OwnB w B t v xs){k:Nat}(hk:v.ownBlock=some k):B≤k∧k<w.heap.size:=World.ownsRow.lt h k hk
theorem OwnB.addr{w:World}{B:Nat}{t:TypeId}{A:Option Addr}{n c:Nat}{xs:List UInt8}(h:OwnB w B t (.slice A n c) xs){b o:Nat}(hA:A=some ⟨b,o,none⟩):B≤b∧b<w.heap.size:=by
 obtain⟨_,_,e,_,_,h4,_⟩:=h.form
 cases e
 obtain⟨g,e2,h5,h6⟩:=h4 _ hA
 cases e2
 exact⟨h5,h6⟩
section
variable {P:Program}(w:World){ops:Array Oper}{rest:List Oper}{o:Oper}{a:Act}{K:Act→World→Prop}{Q:Exit→Act→World→Prop}{E:Prop}(hgd:o.guard=none)(s x:Operand)(t:TypeId)
  (ho:o.op = .call { callee:=.builtin .append,args:=#[s,x],argTypes:=#[t,t] })
  (base:Nat) (e:TypeId) (i:TypeInfo) (ht:P.underlying t=some (.slice e)) (hi:P.info? e=some i) (hz:i.zero=some (.int .u8 0)) (hsize:i.size=1) (hby:i.bytes=1)
  (v:Value) (ys:List UInt8) (hs:a.eval s=v) (hown:OwnB w base e v ys)
  (B:Nat) (A:Option Addr) (m c:Nat) (xs:List UInt8) (hx:a.eval x = .slice A m c) (hr:Bs w B A m xs) (hnone:A=none→c=0)
  (hlen:ys.length+m≤1000000) (hbase:base≤w.heap.size)
include hgd ho ht hi hz hsize hby hs hown hx hr hnone hlen hbase
end
theorem OwnB.beside{w w':World}{B:Nat}{t:TypeId}{v:Value}{xs:List UInt8}{row:Option Nat}(h:OwnB w B t v xs)(hg:w.grownBy w' row)(hne : ∀k,v.ownBlock=some k→row≠some k):OwnB w' B t v xs:=by
 refine⟨h.1,?_⟩
 rcases h.2 with h2 | ⟨g,cap,cur,e,hB,hh,rest⟩
 ·exact .inl h2
 ·refine .inr ⟨g,cap,cur,e,hB,?_,rest⟩
  rw[hg.block g (Array.getElem?_eq_some_iff.1 hh).1 (fun e2=>hne g (by rw[e];rfl) e2.symm)]
  exact hh
end Go.Proofs.YtahiajeggbpogaaGreatDoor
namespace Go.Proofs.YtahiajeggbpogaaGreatDoor
open Go.RowKit
abbrev Pr:=UInt16×UInt32
def pc(x:Pr):List Value:=[.int .u16 (x.1.toNat:Int),.int .u32 (x.2.toNat:Int)]
def Ps(w:World)(B:Nat)(A:Option Addr)(n:Nat)(xs:List Pr):Prop:=
 xs.length=n∧(0<n→∃b o,A=some ⟨b,o,none⟩∧b<B∧∀j,j<n→w.cell? ⟨b,o+j*2,none⟩=some (.int .u16 ((xs[j]?.getD (0,0)).1.toNat:Int))∧w.cell? ⟨b,o+(j*2+1),none⟩=some (.int .u32 ((xs[j]?.getD (0,0)).2.toNat:Int)))
section
variable {w w':World}{B B' n:Nat}{A:Option Addr}{xs:List Pr}
theorem Ps.none_:Ps w B A 0 []:=⟨rfl,fun h=>absurd h (by omega)⟩
theorem Ps.keep(h:Ps w B A n xs)(hk : ∀p:Addr,p.block<B→w'.cell? p=w.cell? p):Ps w' B A n xs:=
 ⟨h.1,fun hn=>by
  obtain⟨b,o,e,hb,hc⟩:=h.2 hn
  exact⟨b,o,e,hb,fun j hj=>⟨(hk _ hb).trans (hc j hj).1,(hk _ hb).trans (hc j hj).2⟩⟩⟩
theorem Ps.more(h:Ps w B A n xs)(hB:B≤B'):Ps w B' A n xs:=
 ⟨h.1,fun hn=>by
  obtain⟨b,o,e,hb,hc⟩:=h.2 hn
  exact⟨b,o,e,by omega,hc⟩⟩
theorem Ps.below(h:Ps w B A n xs)(hb:Below B w w'):Ps w' B A n xs:=h.keep fun _ hp=>hb.cell hp
theorem Ps.alloc(h:Ps w B A n xs)(hB:B≤w.heap.size)(o:Obj):Ps (w.alloc o) B A n xs:=h.keep fun p hp=>World.cell?_alloc_lt w o p (by omega)
theorem Ps.drew(h:Ps w B A n xs):Ps w.drew B A n xs:=h
theorem Ps.setCell(h:Ps w B A n xs){p:Addr}(hB:B≤p.block)(u:Value):Ps (w.setCell p u) B A n xs:=
 h.keep fun q hq=>World.cell?_setCell_other w p q u (fun e=>by subst e;omega)
theorem Ps.on(h:Ps w w.heap.size A n xs)(hb:Below w.heap.size w w'):Ps w' w'.heap.size A n xs:=(h.below hb).more hb.size
end
theorem pcs_at : ∀(xs:List Pr) (j:Nat) (x:Pr),xs[j]? = some x→(xs.flatMap pc)[j*2]? = some (.int .u16 (x.1.toNat:Int))∧(xs.flatMap pc)[j*2+1]? = some (.int .u32 (x.2.toNat:Int))
 | [],_,_,h=>by simp at h
 | y::xs,0,x,h=>by
  simp at h
  subst h
  simp[pc]
 | y::xs,j+1,x,h=>by
  have h2:=pcs_at xs j x (by simpa using h)
  rw[List.flatMap_cons]
  have e1:(j+1)*2=j*2+2:=by omega
  rw[e1,show j*2+2+1=(j*2+1)+2 from by omega]
  constructor
  ·rw[List.getElem?_append_right (by simp[pc])]
   simpa [pc] using h2.1
  ·rw[List.getElem?_append_right (by simp[pc])]
   simpa [pc] using h2.2
theorem pcs_len(xs:List Pr):(xs.flatMap pc).length=xs.length*2:=by
 induction xs with
 | nil=>rfl
 | cons y xs ih=>rw[List.flatMap_cons,List.length_append,ih,List.length_cons];simp[pc];omega
def OwnP(w:World)(B:Nat)(t:TypeId)(v:Value)(xs:List Pr):Prop:=w.ownsRow B t 2 v xs.length (xs.flatMap pc)
section
variable {w w':World}{B B':Nat}{t:TypeId}{v:Value}{xs:List Pr}
theorem OwnP.nil_(w:World)(B:Nat)(t:TypeId):OwnP w B t (.slice none 0 0) []:=World.ownsRow_nil w B t 2
theorem OwnP.kept(h:OwnP w B t v xs)(hb:Below w.heap.size w w'):OwnP w' B t v xs:=
 World.ownsRow.kept h (row:=none) ⟨hb.os,hb.tape,hb.output,hb.size,fun k hk _=>hb.block k hk⟩ (by cases h':v.ownBlock<;>simp)
theorem OwnP.less(h:OwnP w B t v xs)(hB:B'≤B):OwnP w B' t v xs:=by
 refine⟨h.1,?_⟩
 rcases h.2 with h2 | ⟨g,cap,cur,e,hg,rest⟩
 ·exact .inl h2
 ·exact .inr ⟨g,cap,cur,e,by omega,rest⟩
theorem OwnP.alloc(h:OwnP w B t v xs)(o:Obj):OwnP (w.alloc o) B t v xs:=h.kept ((Below.refl _ w).alloc (Nat.le_refl _) o)
theorem OwnP.drew(h:OwnP w B t v xs):OwnP w.drew B t v xs:=h
theorem OwnP.grown{row:Option Nat}(h:OwnP w B t v xs)(hg:w.grownBy w' row)(hne:v.ownBlock=none∨v.ownBlock≠row):OwnP w' B t v xs:=World.ownsRow.kept h hg hne
theorem OwnP.form(h:OwnP w B t v xs) :
  ∃A c,v = .slice A xs.length c∧xs.length≤c∧(A=none→c=0)∧(∀a,A=some a→∃g,a=⟨g,0,none⟩∧B≤g∧g<w.heap.size)∧Ps w w.heap.size A xs.length xs:=by
 rcases h.2 with ⟨rfl,h0⟩ | ⟨g,cap,cur,rfl,hBg,hg,hle,hmax,hs,htake⟩
 ·have:xs=[]:=List.eq_nil_of_length_eq_zero h0
  subst this
  exact⟨none,0,rfl,Nat.le_refl _,fun _=>rfl,fun a h=>(by cases h),Ps.none_⟩
 ·have hlt:g<w.heap.size:=(Array.getElem?_eq_some_iff.1 hg).1
  have hw:w.ownsRow B t 2 (.slice (some ⟨g,0,none⟩) xs.length cap) xs.length (xs.flatMap pc):=h
  refine⟨_,cap,rfl,hle,fun h=>(by cases h),fun a h=>⟨g,(by cases h;rfl),hBg,hlt⟩,rfl,fun hn=>⟨g,0,rfl,hlt,fun j hj=>?_⟩⟩
  have hp:=pcs_at xs j xs[j] (List.getElem?_eq_getElem hj)
  have c1:=World.ownsRow.cellAt hw (j*2) (by omega)
  have c2:=World.ownsRow.cellAt hw (j*2+1) (by omega)
  rw[Nat.zero_add,Nat.zero_add,c1,c2,hp.1,hp.2,List.getElem?_eq_getElem hj]
  exact⟨rfl,rfl⟩
theorem OwnP.form2{n:Nat}(h:OwnP w B t v xs)(hl:xs.length=n) : ∃A c,v = .slice A n c∧n≤c∧(A=none→c=0)∧Ps w w.heap.size A n xs:=by
 subst hl
 obtain⟨A,c,e,h1,h2,_,h3⟩:=h.form
 exact⟨A,c,e,h1,h2,h3⟩
theorem OwnP.lit(w:World)(t:TypeId)(B:Nat)(hB:B≤w.heap.size)(g:Nat)(hg:w.heap.size=g):OwnP (w.alloc (.cells #[] t)) B t (.slice (some ⟨g,0,none⟩) 0 0) []:=by
 subst hg
 exact⟨by simp,.inr ⟨w.heap.size,0,#[],rfl,hB,World.alloc_heap_new w _,Nat.le_refl _,by simp,rfl,rfl⟩⟩
end
theorem Ps.cells{w:World}{B n:Nat}{a:Addr}{xs:List Pr}(h:Ps w B (some a) n xs)(hn:0<n) : ∀j u,(xs.flatMap pc)[j]? = some u→w.cell? (a.add j)=some u:=by
 intro j u hu
 obtain⟨b,o,e,_,hc⟩:=h.2 hn
 cases e
 have hj:j<xs.length*2:=by
  have:=(List.getElem?_eq_some_iff.1 hu).1
  rwa [pcs_len] at this
 have hl:=h.1
 have hj2:j / 2<xs.length:=by omega
 have hp:=pcs_at xs (j / 2) xs[j / 2] (List.getElem?_eq_getElem hj2)
 obtain⟨c1,c2⟩:=hc (j / 2) (by omega)
 rw[List.getElem?_eq_getElem hj2,Option.getD_some] at c1 c2
 rw[Addr.add_lit]
 rcases Nat.mod_two_eq_zero_or_one j with h0 | h0
 ·have e:j / 2*2=j:=by omega
  rw[e] at c1 hp
  rw[hp.1] at hu
  cases hu
  exact c1
 ·have e:j / 2*2+1=j:=by omega
  rw[e] at c2 hp
  rw[hp.2] at hu
  cases hu
  exact c2
section
variable {P:Program}(w:World){ops:Array Oper}{rest:List Oper}{o:Oper}{a:Act}{K:Act→World→Prop}{Q:Exit→Act→World→Prop}{E:Prop}(hgd:o.guard=none)(s x:Operand)(t:TypeId)
  (ho:o.op = .call { callee:=.builtin .append,args:=#[s,x],argTypes:=#[t,t] })
  (base:Nat) (e:TypeId) (i:TypeInfo) (ht:P.underlying t=some (.slice e)) (hi:P.info? e=some i) (hz:i.zero=some (.agg #[.int .u16 0,.int .u32 0])) (hsize:i.size=2) (hby:i.bytes=8)
  (v:Value) (ys:List Pr) (hs:a.eval s=v) (hown:OwnP w base e v ys)
  (B:Nat) (A:Option Addr) (m c:Nat) (xs:List Pr) (hx:a.eval x = .slice A m c) (hr:Ps w B A m xs) (hnone:A=none→c=0)
  (hlen:ys.length+m≤1000000) (hbase:base≤w.heap.size)
include ho ht hi hz hsize hby hs hown hx hr hnone hlen hbase
include hgd
end
end Go.Proofs.YtahiajeggbpogaaGreatDoor
namespace Go.Proofs.YtahiajeggbpogaaGreatDoor
open Go.RowKit
def Four(w:World)(g:Nat)(u0 u1 u2 u3:Value):Prop:=
 w.cell? ⟨g,0,none⟩=some u0∧w.cell? ⟨g,1,none⟩=some u1∧w.cell? ⟨g,2,none⟩=some u2∧w.cell? ⟨g,3,none⟩=some u3
def set4(w:World)(g:Nat)(u0 u1 u2 u3:Value):World:=
 (((w.setCell ⟨g,0,none⟩ u0).setCell ⟨g,1,none⟩ u1).setCell ⟨g,2,none⟩ u2).setCell ⟨g,3,none⟩ u3
section
variable {w w':World}{g:Nat}{u0 u1 u2 u3 v0 v1 v2 v3:Value}
theorem Four.set(h:Four w g u0 u1 u2 u3)(v0 v1 v2 v3:Value):Four (set4 w g v0 v1 v2 v3) g v0 v1 v2 v3:=by
 obtain⟨h0,h1,h2,h3⟩:=h
 have ne : ∀i j:Nat,i≠j→(⟨g,i,none⟩:Addr)≠⟨g,j,none⟩:=fun i j hij e=>hij (by cases e;rfl)
 unfold Four set4
 refine⟨?_,?_,?_,?_⟩
 ·rw[World.cell?_setCell_other _ _ _ _ (ne 3 0 (by omega)),World.cell?_setCell_other _ _ _ _ (ne 2 0 (by omega)),World.cell?_setCell_other _ _ _ _ (ne 1 0 (by omega))]
  exact World.cell?_setCell_same' _ _ _ (by rw[h0];rfl)
 ·rw[World.cell?_setCell_other _ _ _ _ (ne 3 1 (by omega)),World.cell?_setCell_other _ _ _ _ (ne 2 1 (by omega))]
  refine World.cell?_setCell_same' _ _ _ ?_
  rw[World.cell?_setCell_other _ _ _ _ (ne 0 1 (by omega)),h1];rfl
 ·rw[World.cell?_setCell_other _ _ _ _ (ne 3 2 (by omega))]
  refine World.cell?_setCell_same' _ _ _ ?_
  rw[World.cell?_setCell_other _ _ _ _ (ne 1 2 (by omega)),World.cell?_setCell_other _ _ _ _ (ne 0 2 (by omega)),h2];rfl
 ·refine World.cell?_setCell_same' _ _ _ ?_
  rw[World.cell?_setCell_other _ _ _ _ (ne 2 3 (by omega)),World.cell?_setCell_other _ _ _ _ (ne 1 3 (by omega)),World.cell?_setCell_other _ _ _ _ (ne 0 3 (by omega)),h3];rfl
theorem Four.set0(h:Four w g u0 u1 u2 u3)(v0:Value):Four (w.setCell ⟨g,0,none⟩ v0) g v0 u1 u2 u3:=by
 obtain⟨h0,h1,h2,h3⟩:=h
 have ne : ∀i:Nat,i≠0→(⟨g,0,none⟩:Addr)≠⟨g,i,none⟩:=fun i hi e=>hi (by cases e;rfl)
 refine⟨World.cell?_setCell_same' _ _ _ (by rw[h0];rfl),?_,?_,?_⟩
 ·rw[World.cell?_setCell_other _ _ _ _ (ne 1 (by omega)),h1]
 ·rw[World.cell?_setCell_other _ _ _ _ (ne 2 (by omega)),h2]
 ·rw[World.cell?_setCell_other _ _ _ _ (ne 3 (by omega)),h3]
theorem Four.below{B:Nat}(h:Four w g u0 u1 u2 u3)(hb:Below B w w')(hg:g<B):Four w' g u0 u1 u2 u3:=
 ⟨(hb.cell (p:=⟨g,0,none⟩) hg).trans h.1,(hb.cell (p:=⟨g,1,none⟩) hg).trans h.2.1,(hb.cell (p:=⟨g,2,none⟩) hg).trans h.2.2.1,(hb.cell (p:=⟨g,3,none⟩) hg).trans h.2.2.2⟩
theorem Four.drew(h:Four w g u0 u1 u2 u3):Four w.drew g u0 u1 u2 u3:=h
end
theorem OwnB.above{w w':World}{B:Nat}{t:TypeId}{v:Value}{xs:List UInt8}(h:OwnB w B t v xs)(hk : ∀k,B≤k→w'.heap[k]? = w.heap[k]?):OwnB w' B t v xs:=by
 refine⟨h.1,?_⟩
 rcases h.2 with h2 | ⟨g,cap,cur,e,hg,hh,rest⟩
 ·exact .inl h2
 ·exact .inr ⟨g,cap,cur,e,hg,(hk g hg).trans hh,rest⟩
theorem Bs.drop{w:World}{B n k:Nat}{b o:Nat}{xs:List UInt8}(h:Bs w B (some ⟨b,o,none⟩) n xs)(hk:k≤n):Bs w B (some ⟨b,o+k,none⟩) (n-k) (xs.drop k):=
 ⟨by rw[List.length_drop,h.1],fun hn=>by
  obtain⟨b',o',e,hb,hc⟩:=h.2 (by omega)
  cases e
  refine⟨b,o+k,rfl,hb,fun j hj=>?_⟩
  rw[List.getElem?_drop,Nat.add_assoc]
  exact hc (k+j) (by omega)⟩
theorem Bs.cut{w:World}{B n c k:Nat}{b o:Nat}{xs:List UInt8}(h:Bs w B (some ⟨b,o,none⟩) n xs)(hk:k≤n)(hc:n≤c) :
  Bs w B (if c=k then some ⟨b,o,none⟩ else some ⟨b,o+k,none⟩) (n-k) (xs.drop k):=by
 by_cases e:c=k
 ·rw[if_pos e]
  have hn:n=k:=by omega
  have h1:xs.drop k=[]:=List.drop_eq_nil_of_le (by rw[h.1];omega)
  rw[h1,hn,Nat.sub_self]
  exact⟨rfl,fun h=>absurd h (by omega)⟩
 ·rw[if_neg e]
  exact h.drop hk
theorem if_some_ne{c k:Nat}{a b:Addr}{p:Prop}:(if c=k then some a else some b)=none→p:=fun h=>by split at h<;>cases h
theorem Bs.empty(w:World)(B:Nat)(A:Option Addr):Bs w B A 0 []:=⟨rfl,fun h=>absurd h (by omega)⟩
end Go.Proofs.YtahiajeggbpogaaGreatDoor
namespace Go.Proofs.YtahiajeggbpogaaGreatDoor
open Go.RowKit
def KeepC(p:Nat→Prop)(W W':World):Prop:=∀j (o:Obj),p j→W.heap[j]? = some o→o.isCells=true→W'.heap[j]? = some o
section
variable {p:Nat→Prop}{W W' A B C:World}
theorem KeepC.refl(p:Nat→Prop)(W:World):KeepC p W W:=fun _ _ _ h _=>h
theorem KeepC.trans(h:KeepC p A B)(k:KeepC p B C):KeepC p A C:=fun j o hp hj ho=>k j o hp (h j o hp hj ho) ho
theorem KeepC.cell(h:KeepC p W W'){a:Addr}{v:Value}(ha:p a.block)(hc:W.cell? a=some v):W'.cell? a=some v:=by
 obtain⟨o,ho,hcell⟩:=cells_of_cell hc
 have h1:=h _ o ha ho hcell
 have h2:W'.heap[a.block]? = W.heap[a.block]?:=h1.trans ho.symm
 rw[←hc]
 exact World.cell?_of_block h2
theorem KeepC.put(W:World)(l:Nat)(o o':Obj)(h:W.heap[l]? = some o)(hc:o.isCells=false):KeepC p W (W.putObj l o'):=fun j o1 _ hj hc1=>by
 have hne:j≠l:=fun e=>by subst e;rw[h] at hj;cases hj;rw[hc] at hc1;cases hc1
 exact((grownBy_putObj' W l o').block j (Array.getElem?_eq_some_iff.1 hj).1 (fun e=>hne (by cases e;rfl))).trans hj
theorem KeepC.grown{row:Option Nat}(h:W.grownBy W' row)(hr : ∀r,row=some r→¬p r):KeepC p W W':=fun j _ hp hj _=>
 (h.block j (Array.getElem?_eq_some_iff.1 hj).1 (fun e=>hr j e.symm hp)).trans hj
theorem KeepC.below(h:Below W.heap.size W W'):KeepC p W W':=fun j _ _ hj _=>(h.block j (Array.getElem?_eq_some_iff.1 hj).1).trans hj
theorem KeepC.bs{n:Nat}{B:Nat}{A:Option Addr}{xs:List UInt8}(h:KeepC p W W')(hb:Bs W B A n xs)(hp : ∀b o,A=some ⟨b,o,none⟩→p b):Bs W' B A n xs:=
 ⟨hb.1,fun hn=>by
  obtain⟨b,o,e,hB,hc⟩:=hb.2 hn
  exact⟨b,o,e,hB,fun j hj=>h.cell (hp b o e) (hc j hj)⟩⟩
end
theorem grown_none{W W':World}(h:Below W.heap.size W W'):W.grownBy W' none:=⟨h.os,h.tape,h.output,h.size,fun k hk _=>h.block k hk⟩
theorem AbidesFrom.below{β:Type}{B:Nat}{J:β→World→Prop}(h:AbidesFrom B J){s:β}{W W':World}(hs:J s W)(hb:Below W.heap.size W W'):J s W':=
 h s W W' none hs (grown_none hb) (fun r e=>by cases e)
end Go.Proofs.YtahiajeggbpogaaGreatDoor
namespace Go.Proofs.YtahiajeggbpogaaGreatDoor
open Go.RowKit
section
variable {w w':World}{B B':Nat}{t:TypeId}{v:Value}{xs:List Pr}
theorem OwnP.above(h:OwnP w B t v xs)(hk : ∀k,B≤k→w'.heap[k]? = w.heap[k]?):OwnP w' B t v xs:=by
 refine⟨h.1,?_⟩
 rcases h.2 with h2 | ⟨g,cap,cur,e,hg,hh,rest⟩
 ·exact .inl h2
 ·exact .inr ⟨g,cap,cur,e,hg,(hk g hg).trans hh,rest⟩
theorem OwnP.block(h:OwnP w B t v xs){k:Nat}(hk:v.ownBlock=some k):B≤k∧k<w.heap.size:=World.ownsRow.lt h k hk
theorem OwnP.iscells(h:OwnP w B t v xs){k:Nat}(hk:v.ownBlock=some k) : ∃o:Obj,w.heap[k]? = some o∧o.isCells=true:=by
 rcases h.2 with ⟨rfl,_⟩ | ⟨g,cap,cur,rfl,_,hh,_⟩
 ·cases hk
 ·cases hk
  exact⟨_,hh,rfl⟩
theorem OwnP.beside{row:Option Nat}(h:OwnP w B t v xs)(hg:w.grownBy w' row)(hne : ∀k,v.ownBlock=some k→row≠some k):OwnP w' B t v xs:=by
 refine⟨h.1,?_⟩
 rcases h.2 with h2 | ⟨g,cap,cur,e,hB,hh,rest⟩
 ·exact .inl h2
 ·refine .inr ⟨g,cap,cur,e,hB,?_,rest⟩
  rw[hg.block g (Array.getElem?_eq_some_iff.1 hh).1 (fun e2=>hne g (by rw[e];rfl) e2.symm)]
  exact hh
theorem OwnP.other{row:Option Nat}(h:OwnP w B t v xs)(hg:w.grownBy w' row)(hr : ∀k,row=some k→∃o:Obj,w.heap[k]? = some o∧o.isCells=false):OwnP w' B t v xs:=
 h.beside hg fun k hk e=>by
  obtain⟨o,ho,hc⟩:=hr k e
  obtain⟨o2,ho2,hc2⟩:=h.iscells hk
  rw[ho] at ho2
  cases ho2
  rw[hc] at hc2
  cases hc2
end
theorem KeepC.ps{p:Nat→Prop}{W W':World}{n:Nat}{B:Nat}{A:Option Addr}{xs:List Pr}(h:KeepC p W W')(hb:Ps W B A n xs)(hp:0<n→∀b o,A=some ⟨b,o,none⟩→p b):Ps W' B A n xs:=
 ⟨hb.1,fun hn=>by
  obtain⟨b,o,e,hB,hc⟩:=hb.2 hn
  exact⟨b,o,e,hB,fun j hj=>⟨h.cell (hp hn b o e) (hc j hj).1,h.cell (hp hn b o e) (hc j hj).2⟩⟩⟩
structure GatherP (w:World) (g B:Nat) (t:TypeId) (pre:List Pr) (W:World):Prop where
 row : ∃v,W.cell? ⟨g,0,none⟩=some v∧W.frozen? ⟨g,0,none⟩=false∧OwnP W B t v pre
 below:Below w.heap.size w W
 size:B≤W.heap.size
end Go.Proofs.YtahiajeggbpogaaGreatDoor
namespace Go.Proofs.YtahiajeggbpogaaGreatDoor
open Go.RowKit
theorem OwnB.drew{w:World}{B:Nat}{t:TypeId}{v:Value}{xs:List UInt8}(h:OwnB w B t v xs):OwnB w.drew B t v xs:=h
theorem OwnB.lit2(w:World)(t:TypeId)(B g:Nat)(hg:w.heap.size=g)(hB:B≤g):OwnB (w.alloc (.cells #[] t)) B t (.slice (some ⟨g,0,none⟩) 0 0) []:=by
 subst hg
 exact OwnB.lit w t B hB
theorem below_step{w W W':World}(h:Below w.heap.size w W)(h':Below W.heap.size W W'):Below w.heap.size w W':=h.trans (h'.mono h.size)
end Go.Proofs.YtahiajeggbpogaaGreatDoor
namespace Go.Proofs.YtahiajeggbpogaaGreatDoor
open Go.RowKit
abbrev Bx:=Nat×Array Value×TypeId
structure EnvB (w:World) (ss:List (Option Addr×Nat×List UInt8)) (ps:List (Option Addr×Nat×List Pr)) (gs:List Bx):Prop where
 s : ∀x∈ss,Bs w w.heap.size x.1 x.2.1 x.2.2∧(0<x.2.1→∀b o,x.1=some ⟨b,o,none⟩→∀y∈gs,b≠y.1)
 p : ∀x∈ps,Ps w w.heap.size x.1 x.2.1 x.2.2∧(0<x.2.1→∀b o,x.1=some ⟨b,o,none⟩→∀y∈gs,b≠y.1)
 g : ∀y∈gs,w.heap[y.1]? = some (.cells y.2.1 y.2.2)
 d:(gs.map Prod.fst).Nodup
section
variable {w w':World}{ss:List (Option Addr×Nat×List UInt8)}{ps:List (Option Addr×Nat×List Pr)}{gs:List Bx}
theorem EnvB.lt(h:EnvB w ss ps gs){y:Bx}(hy:y∈gs):y.1<w.heap.size:=(Array.getElem?_eq_some_iff.1 (h.g y hy)).1
theorem EnvB.nil(w:World):EnvB w [] [] []:=⟨fun _ h=>(by cases h),fun _ h=>(by cases h),fun _ h=>(by cases h),by simp⟩
theorem EnvB.on(h:EnvB w ss ps gs)(hb:Below w.heap.size w w'):EnvB w' ss ps gs:=
 ⟨fun x hx=>⟨(h.s x hx).1.on hb,(h.s x hx).2⟩,fun x hx=>⟨(h.p x hx).1.on hb,(h.p x hx).2⟩,fun y hy=>(hb.block _ (h.lt hy)).trans (h.g y hy),h.d⟩
theorem EnvB.al(h:EnvB w ss ps gs)(o:Obj):EnvB (w.alloc o) ss ps gs:=h.on ((Below.refl _ w).alloc (Nat.le_refl _) o)
theorem EnvB.drew(h:EnvB w ss ps gs):EnvB w.drew ss ps gs:=⟨h.s,h.p,h.g,h.d⟩
theorem EnvB.boxg(h:EnvB w ss ps gs)(t:TypeId)(cs:Array Value)(g:Nat)(hg:w.heap.size=g):EnvB (w.alloc (.cells cs t)) ss ps ((g,cs,t)::gs):=by
 subst hg
 refine⟨fun x hx=>⟨((h.al _).s x hx).1,fun hn b o e y hy=>?_⟩,fun x hx=>⟨((h.al _).p x hx).1,fun hn b o e y hy=>?_⟩,fun y hy=>?_,?_⟩
 ·rcases List.mem_cons.1 hy with rfl | hy
  ·obtain⟨b',o',e',hb,_⟩:=(h.s x hx).1.2 hn
   rw[e] at e'
   cases e'
   simp only
   omega
  ·exact(h.s x hx).2 hn b o e y hy
 ·rcases List.mem_cons.1 hy with rfl | hy
  ·obtain⟨b',o',e',hb,_⟩:=(h.p x hx).1.2 hn
   rw[e] at e'
   cases e'
   simp only
   omega
  ·exact(h.p x hx).2 hn b o e y hy
 ·rcases List.mem_cons.1 hy with rfl | hy
  ·exact World.alloc_heap_new w _
  ·exact(h.al _).g y hy
 ·rw[List.map_cons,List.nodup_cons]
  refine⟨fun hm=>?_,h.d⟩
  obtain⟨y,hy,e⟩:=List.mem_map.1 hm
  have:=h.lt hy
  simp only at e
  omega
theorem EnvB.box(h:EnvB w ss ps gs)(t:TypeId)(cs:Array Value):EnvB (w.alloc (.cells cs t)) ss ps ((w.heap.size,cs,t)::gs):=h.boxg t cs _ rfl
theorem EnvB.turn(h:EnvB w ss ps gs)(i:Nat){g:Nat}{old cs:Array Value}{t:TypeId}(hi:gs[i]? = some (g,old,t))(hrow:w'.heap[g]? = some (.cells cs t))(hoth : ∀k,k≠g→w'.heap[k]? = w.heap[k]?)(hz:w'.heap.size=w.heap.size) :
  EnvB w' ss ps (gs.set i (g,cs,t)):=by
 have hmem:(g,old,t)∈gs:=List.mem_of_getElem? hi
 have hfst:(gs.set i (g,cs,t)).map Prod.fst=gs.map Prod.fst:=by
  rw[List.map_set]
  apply List.ext_getElem?
  intro k
  rw[List.getElem?_set]
  split
  ·rename_i e
   subst e
   rw[List.getElem?_map,hi]
   have:i<gs.length:=(List.getElem?_eq_some_iff.1 hi).1
   simp[this]
  ·rfl
 have hsub : ∀y∈gs.set i (g,cs,t),y.1∈gs.map Prod.fst:=fun y hy=>by rw[←hfst];exact List.mem_map_of_mem hy
 have cellk : ∀b o:Nat,b≠g→w'.cell? ⟨b,o,none⟩=w.cell? ⟨b,o,none⟩:=fun b o hb=>World.cell?_of_block (a:=⟨b,o,none⟩) (hoth b hb)
 refine⟨fun x hx=>⟨⟨(h.s x hx).1.1,fun hn=>?_⟩,fun hn b o e y hy=>?_⟩,fun x hx=>⟨⟨(h.p x hx).1.1,fun hn=>?_⟩,fun hn b o e y hy=>?_⟩,fun y hy=>?_,by rw[hfst];exact h.d⟩
 ·obtain⟨b,o,e,hb,hc⟩:=(h.s x hx).1.2 hn
  have hne:=(h.s x hx).2 hn b o e _ hmem
  exact⟨b,o,e,by omega,fun j hj=>(cellk b _ hne).trans (hc j hj)⟩
 ·obtain⟨z,hz2,ez⟩:=List.mem_map.1 (hsub y hy)
  rw[←ez]
  exact(h.s x hx).2 hn b o e z hz2
 ·obtain⟨b,o,e,hb,hc⟩:=(h.p x hx).1.2 hn
  have hne:=(h.p x hx).2 hn b o e _ hmem
  exact⟨b,o,e,by omega,fun j hj=>⟨(cellk b _ hne).trans (hc j hj).1,(cellk b _ hne).trans (hc j hj).2⟩⟩
 ·obtain⟨z,hz2,ez⟩:=List.mem_map.1 (hsub y hy)
  rw[←ez]
  exact(h.p x hx).2 hn b o e z hz2
 ·obtain⟨k,hk,ek⟩:=List.mem_iff_getElem.1 hy
  rw[List.getElem_set] at ek
  split at ek
  ·subst ek
   exact hrow
  ·rename_i hne
   have hk':k<gs.length:=by simpa using hk
   have hy2:y∈gs:=ek ▸ List.getElem_mem hk'
   have hne2:y.1≠g:=fun e=>by
    have n1:(gs.map Prod.fst)[k]? = some g:=by rw[List.getElem?_map,List.getElem?_eq_getElem hk',ek];simp[e]
    have n2:(gs.map Prod.fst)[i]? = some g:=by rw[List.getElem?_map,hi];rfl
    have hi':i<(gs.map Prod.fst).length:=(List.getElem?_eq_some_iff.1 n2).1
    exact hne ((List.getElem?_inj hi' h.d).1 (n2.trans n1.symm))
   rw[hoth _ hne2]
   exact h.g y hy2
theorem EnvB.row(h:EnvB w ss ps gs)(i:Nat){g:Nat}{old:Array Value}{t:TypeId}(hi:gs[i]? = some (g,old,t)):w.heap[g]? = some (.cells old t):=h.g _ (List.mem_of_getElem? hi)
theorem EnvB.setCell(h:EnvB w ss ps gs)(i:Nat){g j:Nat}{old:Array Value}{t:TypeId}(hi:gs[i]? = some (g,old,t))(v:Value):EnvB (w.setCell ⟨g,j,none⟩ v) ss ps (gs.set i (g,old.setIfInBounds j v,t)):=
 h.turn i hi (Go.heap_setCell_same w g j old t v (h.row i hi)) (fun k hk=>Go.heap_setCell_other w ⟨g,j,none⟩ k v hk) (by simp)
end
end Go.Proofs.YtahiajeggbpogaaGreatDoor
namespace Go.Proofs.YtahiajeggbpogaaGreatDoor
open Go.RowKit
set_option linter.unusedVariables false
def upd(cs:Array Value):Nat→List Value→Array Value
 | _,[]=>cs
 | o,v::r=>upd (cs.setIfInBounds o v) (o+1) r
theorem setCells_row(g:Nat)(t:TypeId) : ∀(vs:List Value) (o:Nat) (w:World) (old:Array Value),w.heap[g]? = some (.cells old t)→(w.setCells g o vs).heap[g]? = some (.cells (upd old o vs) t)
 | [],_,_,_,h=>h
 | v::r,o,w,old,h=>setCells_row g t r (o+1) _ _ (Go.heap_setCell_same w g o old t v h)
theorem setCells_other(g:Nat) : ∀(vs:List Value) (o:Nat) (w:World) (k:Nat),k≠g→(w.setCells g o vs).heap[k]? = w.heap[k]?
 | [],_,_,_,_=>rfl
 | v::r,o,w,k,h=>(setCells_other g r (o+1) _ k h).trans (Go.heap_setCell_other w ⟨g,o,none⟩ k v h)
theorem setCells_size(g:Nat) : ∀(vs:List Value) (o:Nat) (w:World),(w.setCells g o vs).heap.size=w.heap.size
 | [],_,_=>rfl
 | v::r,o,w=>(setCells_size g r (o+1) _).trans (World.size_setCell _ _ _)
theorem setCells_below{B g:Nat}(hB:B≤g) : ∀(vs:List Value) (o:Nat) (w w0:World),Below B w0 w→Below B w0 (w.setCells g o vs)
 | [],_,_,_,h=>h
 | v::r,o,w,w0,h=>setCells_below hB r (o+1) _ w0 (h.setCell (p:=⟨g,o,none⟩) hB v)
theorem at_store{P:Program}{ops:Array Oper}{rest:List Oper}{o:Oper}{a:Act}{w:World}{Q:Exit→Act→World→Prop}(ty:TypeId)(x y:Operand)(_:o.op = .store ty x y)(h:wpList P ops Q (o::rest) a w):wpList P ops Q (o::rest) a w:=h
theorem at_load{P:Program}{ops:Array Oper}{rest:List Oper}{o:Oper}{a:Act}{w:World}{Q:Exit→Act→World→Prop}(ty:TypeId)(x:Operand)(_:o.op = .load ty x)(h:wpList P ops Q (o::rest) a w):wpList P ops Q (o::rest) a w:=h
section
variable {P:Program}
theorem run_put(w:World)(g o:Nat)(ty t:TypeId)(v:Value)(old:Array Value)(hg:w.heap[g]? = some (.cells old t))(hl:o+v.cells.size≤old.size)(hi:(P.info? ty).map (·.size)=some v.cells.size)(h1:v.cells.toList.all (·.oneCell')=true) :
  (storeVar ty ⟨g,o,none⟩ v).run P w = .ok () (w.setCells g o v.cells.toList):=by
 have h:=run_storeCells_cells (P:=P) g o v.cells.toList 0 w
  (fun j hj=>by rw[cell_of_row w g (o+0+j) old t (0,0) hg];simp at hj ⊢;omega)
  (fun j _=>frozen_of_row w g _ old t hg)
  (fun u hu=>List.all_eq_true.1 h1 u hu)
 cases hq:P.info? ty with
 | none=>simp[hq] at hi
 | some i=>
  have hs:v.cells.size=i.size:=by simp[hq] at hi;omega
  simp only[Nat.add_zero] at h
  simp[storeVar,sizeOf,typeInfo,hq,hs,h]
theorem wp_put{op:Oper}{a:Act}{w:World}{K:Act→World→Prop}{Q:Exit→Act→World→Prop}(ty:TypeId)(x y:Operand)(ho:op.op = .store ty x y)
  (g o:Nat) (v:Value) (hx:a.eval x = .pointer (some ⟨g,o,none⟩)) (hy:a.eval y=v) (t:TypeId) (old cs:Array Value) (hg:w.heap[g]? = some (.cells old t))
  (hl:o+v.cells.size≤old.size) (hcs:upd old o v.cells.toList=cs) (hi:(P.info? ty).map (·.size)=some v.cells.size) (h1:v.cells.toList.all (·.oneCell')=true)
  (h : ∀w',w'.heap[g]? = some (.cells cs t)→(∀k,k≠g→w'.heap[k]? = w.heap[k]?)→w'.heap.size=w.heap.size→(∀B w0,B≤g→Below B w0 w→Below B w0 w')→K (a.put op.dst undef) w'):op.wp P a w K Q:=by
 subst hcs
 unfold Oper.wp execOp
 simp only[ho,hx,hy,Instr.storeAt,Instr.sureAddr,Sem.run_bind,Sem.run_pure,Result.andThen_ok,run_put w g o ty t v old hg hl hi h1]
 exact h _ (setCells_row g t _ o w old hg) (setCells_other g _ o w) (setCells_size g _ o w) (fun B w0 hB hb=>setCells_below hB _ o w w0 hb)
theorem wpList_put{ops:Array Oper}{rest:List Oper}{op:Oper}{a:Act}{w:World}{Q:Exit→Act→World→Prop}(hgd:op.guard=none)(ty:TypeId)(x y:Operand)(ho:op.op = .store ty x y)
  (g o:Nat) (v:Value) (hx:a.eval x = .pointer (some ⟨g,o,none⟩)) (hy:a.eval y=v) (t:TypeId) (old cs:Array Value) (hg:w.heap[g]? = some (.cells old t))
  (hl:o+v.cells.size≤old.size) (hcs:upd old o v.cells.toList=cs) (hi:(P.info? ty).map (·.size)=some v.cells.size) (h1:v.cells.toList.all (·.oneCell')=true)
  (h : ∀w',w'.heap[g]? = some (.cells cs t)→(∀k,k≠g→w'.heap[k]? = w.heap[k]?)→w'.heap.size=w.heap.size→(∀B w0,B≤g→Below B w0 w→Below B w0 w')→wpList P ops Q rest (a.put op.dst undef) w'):wpList P ops Q (op::rest) a w:=
 wpList_plain hgd fun _ hK=>wp_put ty x y ho g o v hx hy t old cs hg hl hcs hi h1 fun w' c1 c2 c3 c4=>hK _ _ (h w' c1 c2 c3 c4)
theorem step_put{ops:Array Oper}{op:Oper}{a:Act}{w:World}{K:Act→World→Prop}{Q:Exit→Act→World→Prop}{E:Prop}(hgd:op.guard=none)(ty:TypeId)(x y:Operand)(ho:op.op = .store ty x y)
  (g o:Nat) (v:Value) (hx:a.eval x = .pointer (some ⟨g,o,none⟩)) (hy:a.eval y=v) (t:TypeId) (old cs:Array Value) (hg:w.heap[g]? = some (.cells old t))
  (hl:o+v.cells.size≤old.size) (hcs:upd old o v.cells.toList=cs) (hi:(P.info? ty).map (·.size)=some v.cells.size) (h1:v.cells.toList.all (·.oneCell')=true)
  (h : ∀w',w'.heap[g]? = some (.cells cs t)→(∀k,k≠g→w'.heap[k]? = w.heap[k]?)→w'.heap.size=w.heap.size→(∀B w0,B≤g→Below B w0 w→Below B w0 w')→K (a.put op.dst undef) w'):if Region.wanted op (yielded ops a.tmps)=true then Oper.wp P op a w K Q else E:=by
 have hw:Region.wanted op (yielded ops a.tmps)=true:=by simp[Region.wanted,hgd]
 rw[if_pos hw]
 exact wp_put ty x y ho g o v hx hy t old cs hg hl hcs hi h1 h
theorem step_load_row{ops:Array Oper}{op:Oper}{a:Act}{w:World}{K:Act→World→Prop}{Q:Exit→Act→World→Prop}{E:Prop}(hgd:op.guard=none)(ty:TypeId)(x:Operand)(ho:op.op = .load ty x)
  (g:Nat) (hx:a.eval x = .pointer (some ⟨g,0,none⟩)) (t:TypeId) (cs:Array Value) (d:TypeDesc) (hg:w.heap[g]? = some (.cells cs t))
  (hu:P.underlying ty=some d) (hd:(match d with | .struct _ | .array _ _=>true | _=>false)=true) (hi:(P.info? ty).map (·.size)=some cs.size)
  (h:K (a.put op.dst (.agg cs)) w):if Region.wanted op (yielded ops a.tmps)=true then Oper.wp P op a w K Q else E:=by
 have hw:Region.wanted op (yielded ops a.tmps)=true:=by simp[Region.wanted,hgd]
 rw[if_pos hw]
 exact wp_load_row ty x ho g hx t cs _ d hg hu hd hi h
theorem run_get(w:World)(g o:Nat)(ty t:TypeId)(cs:Array Value)(v:Value)(d:TypeDesc)(hg:w.heap[g]? = some (.cells cs t))(hv:cs[o]? = some v)(hu:P.underlying ty=some d)(hd:(match d with | .struct _ | .array _ _=>true | _=>false)=false) :
  (loadVar ty ⟨g,o,none⟩).run P w = .ok v w:=by
 have hagg:(isAgg ty).run P w = .ok false w:=by
  unfold isAgg
  rw[Sem.run_bind,run_underlying hu w]
  cases d<;>simp_all
 have hc:w.cell? ⟨g,o,none⟩=some v:=by rw[cell_of_row w g o cs t (0,0) hg];exact hv
 simp[loadVar,Sem.run_bind,hagg,run_load,hc]
theorem wp_get{op:Oper}{a:Act}{w:World}{K:Act→World→Prop}{Q:Exit→Act→World→Prop}(ty:TypeId)(x:Operand)(ho:op.op = .load ty x)
  (g o:Nat) (hx:a.eval x = .pointer (some ⟨g,o,none⟩)) (t:TypeId) (cs:Array Value) (v:Value) (d:TypeDesc) (hg:w.heap[g]? = some (.cells cs t)) (hv:cs[o]? = some v)
  (hu:P.underlying ty=some d) (hd:(match d with | .struct _ | .array _ _=>true | _=>false)=false)
  (h:K (a.put op.dst v) w):op.wp P a w K Q:=by
 unfold Oper.wp execOp
 simp only[ho,hx,Instr.loadAt,Instr.sureAddr,Sem.run_bind,Sem.run_pure,Result.andThen_ok,run_get w g o ty t cs v d hg hv hu hd]
 exact h
theorem wpList_get{ops:Array Oper}{rest:List Oper}{op:Oper}{a:Act}{w:World}{Q:Exit→Act→World→Prop}(hgd:op.guard=none)(ty:TypeId)(x:Operand)(ho:op.op = .load ty x)
  (g o:Nat) (hx:a.eval x = .pointer (some ⟨g,o,none⟩)) (t:TypeId) (cs:Array Value) (v:Value) (d:TypeDesc) (hg:w.heap[g]? = some (.cells cs t)) (hv:cs[o]? = some v)
  (hu:P.underlying ty=some d) (hd:(match d with | .struct _ | .array _ _=>true | _=>false)=false)
  (h:wpList P ops Q rest (a.put op.dst v) w):wpList P ops Q (op::rest) a w:=
 wpList_plain hgd fun _ hK=>wp_get ty x ho g o hx t cs v d hg hv hu hd (hK _ _ h)
end
theorem c4_row{w:World}{g:Nat}{a b c d:Value}{t:TypeId}(h:w.heap[g]? = some (.cells #[a,b,c,d] t)):w.cell? ⟨g,0,none⟩=some a∧w.cell? ⟨g,1,none⟩=some b∧w.cell? ⟨g,2,none⟩=some c∧w.cell? ⟨g,3,none⟩=some d:=by
 refine⟨?_,?_,?_,?_⟩<;>rw[cell_of_row w g _ _ t (0,0) h]<;>rfl
theorem EnvB.ne{w:World}{ss:List (Option Addr×Nat×List UInt8)}{ps:List (Option Addr×Nat×List Pr)}{gs:List Bx}(h:EnvB w ss ps gs)(i j:Nat){a b:Bx}(hi:gs[i]? = some a)(hj:gs[j]? = some b)(hij:i≠j):a.1≠b.1:=fun e=>by
 have n1:(gs.map Prod.fst)[i]? = some a.1:=by rw[List.getElem?_map,hi];rfl
 have n2:(gs.map Prod.fst)[j]? = some a.1:=by rw[List.getElem?_map,hj,e];rfl
 exact hij ((List.getElem?_inj (List.getElem?_eq_some_iff.1 n1).1 h.d).1 (n1.trans n2.symm))
theorem EnvB.setCells{w:World}{ss:List (Option Addr×Nat×List UInt8)}{ps:List (Option Addr×Nat×List Pr)}{gs:List Bx}(h:EnvB w ss ps gs)(i:Nat){g:Nat}{old cs:Array Value}{t:TypeId}(hi:gs[i]? = some (g,old,t))(vs:List Value)(hcs:upd old 0 vs=cs):EnvB (w.setCells g 0 vs) ss ps (gs.set i (g,cs,t)):=by
 subst hcs
 exact h.turn i hi (setCells_row g t vs 0 w old (h.row i hi)) (setCells_other g vs 0 w) (setCells_size g vs 0 w)
theorem res_cell_tmp{P:Program}{fn:Func}{p q:Tmp}{ty:TypeId}(h:fn.results=#[.cell p ty,.tmp q])(tmps:Array Value)(w:World)(g:Nat)(t:TypeId)(cs:Array Value)(d:TypeDesc)
  (hp:tmps.getD p undef = .pointer (some ⟨g,0,none⟩)) (hg:w.heap[g]? = some (.cells cs t))
  (hu:P.underlying ty=some d) (hd:(match d with | .struct _ | .array _ _=>true | _=>false)=true) (hi:(P.info? ty).map (·.size)=some cs.size) :
  (results fn tmps).run P w = .ok (.tuple #[.agg cs,tmps.getD q undef]) w:=by
 have hp':tmps[p]?.getD undef = .pointer (some ⟨g,0,none⟩):=by simpa using hp
 simp[results,h,hp',asAddr,run_loadVar_row w g t ty cs _ d hg hu hd hi]
def FreshS(B:Nat)(A:Option Addr)(n:Nat):Prop:=0<n→∀b o,A=some ⟨b,o,none⟩→B≤b
theorem OwnB.freshS{w:World}{B:Nat}{t:TypeId}{A:Option Addr}{n c:Nat}{xs:List UInt8}(h:OwnB w B t (.slice A n c) xs):FreshS B A n:=fun _ b o e=>(h.addr e).1
theorem OwnP.freshS{w:World}{B:Nat}{t:TypeId}{A:Option Addr}{n c:Nat}{xs:List Pr}(h:OwnP w B t (.slice A n c) xs):FreshS B A n:=fun _ b o e=>by
 obtain⟨A',c',e',_,_,h4,_⟩:=h.form
 cases e'
 obtain⟨g,eg,hg,_⟩:=h4 _ e
 cases eg
 exact hg
theorem FreshS.less{B B':Nat}{A:Option Addr}{n:Nat}(h:FreshS B A n)(hB:B'≤B):FreshS B' A n:=fun hn b o e=>Nat.le_trans hB (h hn b o e)
theorem FreshS.nil_(B:Nat)(A:Option Addr):FreshS B A 0:=fun h=>absurd h (by omega)
def HandS(w':World)(B:Nat)(A:Option Addr)(n c:Nat)(xs:List UInt8):Prop:=Bs w' w'.heap.size A n xs∧FreshS B A n∧n≤c∧(A=none→c=0)
def HandP(w':World)(B:Nat)(A:Option Addr)(n c:Nat)(xs:List Pr):Prop:=Ps w' w'.heap.size A n xs∧FreshS B A n∧n≤c∧(A=none→c=0)
theorem HandS.nil_(w:World)(B:Nat):HandS w B none 0 0 []:=⟨Bs.none_,FreshS.nil_ _ _,Nat.le_refl _,fun _=>rfl⟩
theorem HandP.nil_(w:World)(B:Nat):HandP w B none 0 0 []:=⟨Ps.none_,FreshS.nil_ _ _,Nat.le_refl _,fun _=>rfl⟩
theorem OwnB.handS{w:World}{B:Nat}{t:TypeId}{v:Value}{xs:List UInt8}{n:Nat}(h:OwnB w B t v xs)(hl:xs.length=n) : ∃A c,v = .slice A n c∧HandS w B A n c xs:=by
 obtain⟨A,c,rfl,h1,h2,h3⟩:=h.form2 hl
 exact⟨A,c,rfl,h3,h.freshS,h1,h2⟩
theorem EnvB.handS{w w':World}{ss:List (Option Addr×Nat×List UInt8)}{ps:List (Option Addr×Nat×List Pr)}{gs:List Bx}(h:EnvB w ss ps gs)(hb:Below w.heap.size w w'){A:Option Addr}{n c:Nat}{xs:List UInt8}(ho:HandS w' w.heap.size A n c xs):EnvB w' ((A,n,xs)::ss) ps gs:=by
 have h':=h.on hb
 refine⟨fun x hx=>?_,h'.p,h'.g,h'.d⟩
 rcases List.mem_cons.1 hx with rfl | hx
 ·refine⟨ho.1,fun hn b o e y hy=>?_⟩
  have:=h.lt hy
  have:=ho.2.1 hn b o e
  omega
 ·exact h'.s x hx
end Go.Proofs.YtahiajeggbpogaaGreatDoor
namespace Go.Proofs.YtahiajeggbpogaaGreatDoor
open Go.RowKit
set_option linter.unusedVariables false
structure TurnB (g:Nat) (w w':World):Prop where
 os:w'.os=w.os
 tape:w'.tape=w.tape
 output:w'.output=w.output
 size:w.heap.size≤w'.heap.size
 oth : ∀k,k<w.heap.size→k≠g→w'.heap[k]? = w.heap[k]?
section
variable {g:Nat}{w w' w1 w2:World}
theorem TurnB.refl(g:Nat)(w:World):TurnB g w w:=⟨rfl,rfl,rfl,Nat.le_refl _,fun _ _ _=>rfl⟩
theorem TurnB.trans(h:TurnB g w w1)(k:TurnB g w1 w2):TurnB g w w2:=
 ⟨k.os.trans h.os,k.tape.trans h.tape,k.output.trans h.output,Nat.le_trans h.size k.size,fun i hi hg=>(k.oth i (Nat.lt_of_lt_of_le hi h.size) hg).trans (h.oth i hi hg)⟩
theorem TurnB.of(h:Below w.heap.size w w1):TurnB g w w1:=⟨h.os,h.tape,h.output,h.size,fun i hi _=>h.block i hi⟩
theorem TurnB.callB(h:TurnB g w w1)(hb:Below w1.heap.size w1 w2):TurnB g w w2:=h.trans (.of hb)
theorem TurnB.al(h:TurnB g w w1)(o:Obj):TurnB g w (w1.alloc o):=h.callB ((Below.refl _ _).alloc (Nat.le_refl _) _)
theorem TurnB.below{B:Nat}{w0:World}(h:TurnB g w w1)(hB:B≤g)(hlt:g<w.heap.size)(hb:Below B w0 w):Below B w0 w1:=
 hb.trans ⟨h.os,h.tape,h.output,h.size,fun k hk=>h.oth k (by omega) (by omega)⟩
variable {ss:List (Option Addr×Nat×List UInt8)}{ps:List (Option Addr×Nat×List Pr)}{gs:List Bx}
theorem fst_set(gs:List Bx)(i:Nat){g:Nat}{old cs:Array Value}{t:TypeId}(hi:gs[i]? = some (g,old,t)):(gs.set i (g,cs,t)).map Prod.fst=gs.map Prod.fst:=by
 rw[List.map_set]
 apply List.ext_getElem?
 intro k
 rw[List.getElem?_set]
 split
 ·rename_i e
  subst e
  rw[List.getElem?_map,hi]
  have:i<gs.length:=(List.getElem?_eq_some_iff.1 hi).1
  simp[this]
 ·rfl
theorem EnvB.sub{ss':List (Option Addr×Nat×List UInt8)}{ps':List (Option Addr×Nat×List Pr)}{gs':List Bx}(h:EnvB w ss ps gs)(h1 : ∀x∈ss',x∈ss)(h2 : ∀x∈ps',x∈ps)(h3:List.Sublist gs' gs):EnvB w ss' ps' gs':=
 ⟨fun x hx=>⟨(h.s x (h1 x hx)).1,fun hn b o e y hy=>(h.s x (h1 x hx)).2 hn b o e y (h3.subset hy)⟩,fun x hx=>⟨(h.p x (h2 x hx)).1,fun hn b o e y hy=>(h.p x (h2 x hx)).2 hn b o e y (h3.subset hy)⟩,fun y hy=>h.g y (h3.subset hy),(h3.map Prod.fst).nodup h.d⟩
end
section
variable {P:Program}
def Enters(P:Program)(J:FuncId):Prop:=∀(args:Array Value) (w:World),(callFunc J args).run P w = .ok (.enter J args) w
theorem at_callv{ops:Array Oper}{rest:List Oper}{o:Oper}{a:Act}{w:World}{Q:Exit→Act→World→Prop}(xv:Operand)(xs:Array Operand)(ats:Array TypeId)(_:o.op = .call { callee:=.value xv,args:=xs,argTypes:=ats })(h:wpList P ops Q (o::rest) a w):wpList P ops Q (o::rest) a w:=h
theorem wp_callv{op:Oper}{a:Act}{w:World}{K:Act→World→Prop}{Q:Exit→Act→World→Prop}(xv:Operand)(xs:Array Operand)(ats:Array TypeId)(ho:op.op = .call { callee:=.value xv,args:=xs,argTypes:=ats })
  (J:FuncId) (cap:Array Value) (hT:a.eval xv = .func (.func J) #[] cap) (hE:Enters P J) (args:Array Value) (ha:xs.map a.eval++cap=args)
  (R:Value→World→Prop) (hC:Calls P J args w fun e w'=>∃v,e = .returned v∧R v w') (h : ∀v w',R v w'→K (a.put op.dst v) w'):op.wp P a w K Q:=by
 unfold Oper.wp execOp
 have e:(callFunc J args).run P w = .ok (.enter J args) w:=hE args w
 have ha2:#[]++xs.map a.eval++cap=args:=by simpa using ha
 simp only[ho,resolve,hT,Deferred.ofValue,Sem.run_bind,Sem.run_pure,Result.andThen_ok,invoke,ha2,e,Oper.upon_enter]
 refine hC.mono ?_
 rintro e w' ⟨v,rfl,hr⟩
 exact h v w' hr
theorem wpList_callv{ops:Array Oper}{rest:List Oper}{op:Oper}{a:Act}{w:World}{Q:Exit→Act→World→Prop}(hgd:op.guard=none)(xv:Operand)(xs:Array Operand)(ats:Array TypeId)(ho:op.op = .call { callee:=.value xv,args:=xs,argTypes:=ats })
  (J:FuncId) (cap:Array Value) (hT:a.eval xv = .func (.func J) #[] cap) (hE:Enters P J) (args:Array Value) (ha:xs.map a.eval++cap=args)
  (R:Value→World→Prop) (hC:Calls P J args w fun e w'=>∃v,e = .returned v∧R v w') (h : ∀v w',R v w'→wpList P ops Q rest (a.put op.dst v) w'):wpList P ops Q (op::rest) a w:=
 wpList_plain hgd fun _ hK=>wp_callv xv xs ats ho J cap hT hE args ha R hC fun v w' hr=>hK _ _ (h v w' hr)
end
theorem res_cell1{P:Program}{fn:Func}{p:Tmp}{ty:TypeId}(h:fn.results=#[.cell p ty])(tmps:Array Value)(w:World)(g:Nat)(t:TypeId)(cs:Array Value)(d:TypeDesc)
  (hp:tmps.getD p undef = .pointer (some ⟨g,0,none⟩)) (hg:w.heap[g]? = some (.cells cs t))
  (hu:P.underlying ty=some d) (hd:(match d with | .struct _ | .array _ _=>true | _=>false)=true) (hi:(P.info? ty).map (·.size)=some cs.size) :
  (results fn tmps).run P w = .ok (.agg cs) w:=by
 have hp':tmps[p]?.getD undef = .pointer (some ⟨g,0,none⟩):=by simpa using hp
 simp[results,h,hp',asAddr,run_loadVar_row w g t ty cs _ d hg hu hd hi]
end Go.Proofs.YtahiajeggbpogaaGreatDoor
namespace Go.Proofs.YtahiajeggbpogaaGreatDoor
open Go.RowKit
set_option linter.unusedVariables false
structure Fact where
 on:Nat→Prop
 is:World→Prop
 dep : ∀w w':World,is w→w.heap.size≤w'.heap.size→(∀k,on k→w'.heap[k]? = w.heap[k]?)→is w'
structure EnvF (w:World) (fs:List Fact) (gs:List Bx):Prop where
 f : ∀x∈fs,x.is w∧∀k,x.on k→k<w.heap.size∧∀y∈gs,k≠y.1
 g : ∀y∈gs,w.heap[y.1]? = some (.cells y.2.1 y.2.2)
 d:(gs.map Prod.fst).Nodup
def HandF(w':World)(B:Nat)(x:Fact):Prop:=x.is w'∧∀k,x.on k→B≤k∧k<w'.heap.size
section
variable {w w':World}{fs:List Fact}{gs:List Bx}{x:Fact}
theorem EnvF.lt(h:EnvF w fs gs){y:Bx}(hy:y∈gs):y.1<w.heap.size:=(Array.getElem?_eq_some_iff.1 (h.g y hy)).1
theorem EnvF.nil(w:World):EnvF w [] []:=⟨fun _ h=>(by cases h),fun _ h=>(by cases h),by simp⟩
theorem EnvF.on(h:EnvF w fs gs)(hb:Below w.heap.size w w'):EnvF w' fs gs:=
 ⟨fun x hx=>⟨x.dep w w' (h.f x hx).1 hb.size fun k hk=>hb.block k ((h.f x hx).2 k hk).1,fun k hk=>⟨Nat.lt_of_lt_of_le ((h.f x hx).2 k hk).1 hb.size,((h.f x hx).2 k hk).2⟩⟩,
  fun y hy=>(hb.block _ (h.lt hy)).trans (h.g y hy),h.d⟩
theorem EnvF.al(h:EnvF w fs gs)(o:Obj):EnvF (w.alloc o) fs gs:=h.on ((Below.refl _ w).alloc (Nat.le_refl _) o)
theorem EnvF.drew(h:EnvF w fs gs):EnvF w.drew fs gs:=h.on (Below.refl _ w).drew
theorem EnvF.row(h:EnvF w fs gs)(i:Nat){g:Nat}{cs:Array Value}{t:TypeId}(hi:gs[i]? = some (g,cs,t)):w.heap[g]? = some (.cells cs t):=h.g _ (List.mem_of_getElem? hi)
theorem EnvF.add0(h:EnvF w fs [])(hx:x.is w)(hl : ∀k,x.on k→k<w.heap.size):EnvF w (x::fs) []:=
 ⟨fun y hy=>by
  rcases List.mem_cons.1 hy with rfl | hy
  ·exact⟨hx,fun k hk=>⟨hl k hk,fun _ h=>(by cases h)⟩⟩
  ·exact h.f y hy,h.g,h.d⟩
theorem EnvF.hand(h:EnvF w fs gs)(hb:Below w.heap.size w w')(hx:HandF w' w.heap.size x):EnvF w' (x::fs) gs:=
 ⟨fun y hy=>by
  rcases List.mem_cons.1 hy with rfl | hy
  ·exact⟨hx.1,fun k hk=>⟨(hx.2 k hk).2,fun z hz=>by have:=h.lt hz;have:=(hx.2 k hk).1;omega⟩⟩
  ·exact(h.on hb).f y hy,(h.on hb).g,h.d⟩
theorem EnvF.boxg(h:EnvF w fs gs)(t:TypeId)(cs:Array Value)(g:Nat)(hg:w.heap.size=g):EnvF (w.alloc (.cells cs t)) fs ((g,cs,t)::gs):=by
 subst hg
 refine⟨fun x hx=>⟨((h.al _).f x hx).1,fun k hk=>⟨((h.al _).f x hx).2 k hk |>.1,fun y hy=>?_⟩⟩,fun y hy=>?_,?_⟩
 ·rcases List.mem_cons.1 hy with rfl | hy
  ·have:=((h.f x hx).2 k hk).1
   simp only
   omega
  ·exact((h.f x hx).2 k hk).2 y hy
 ·rcases List.mem_cons.1 hy with rfl | hy
  ·exact World.alloc_heap_new w _
  ·exact(h.al _).g y hy
 ·rw[List.map_cons,List.nodup_cons]
  refine⟨fun hm=>?_,h.d⟩
  obtain⟨y,hy,e⟩:=List.mem_map.1 hm
  have:=h.lt hy
  simp only at e
  omega
theorem EnvF.box(h:EnvF w fs gs)(t:TypeId)(cs:Array Value):EnvF (w.alloc (.cells cs t)) fs ((w.heap.size,cs,t)::gs):=h.boxg t cs _ rfl
theorem EnvF.ne(h:EnvF w fs gs)(i j:Nat){a b:Bx}(hi:gs[i]? = some a)(hj:gs[j]? = some b)(hij:i≠j):a.1≠b.1:=fun e=>by
 have n1:(gs.map Prod.fst)[i]? = some a.1:=by rw[List.getElem?_map,hi];rfl
 have n2:(gs.map Prod.fst)[j]? = some a.1:=by rw[List.getElem?_map,hj,e];rfl
 exact hij ((List.getElem?_inj (List.getElem?_eq_some_iff.1 n1).1 h.d).1 (n1.trans n2.symm))
theorem EnvF.turn(h:EnvF w fs gs)(i:Nat){g:Nat}{old cs:Array Value}{t:TypeId}(hi:gs[i]? = some (g,old,t))(hrow:w'.heap[g]? = some (.cells cs t))(hoth : ∀k,k≠g→w'.heap[k]? = w.heap[k]?)(hz:w'.heap.size=w.heap.size) :
  EnvF w' fs (gs.set i (g,cs,t)):=by
 have hmem:(g,old,t)∈gs:=List.mem_of_getElem? hi
 have hfst:=fst_set gs i (cs:=cs) hi
 have hsub : ∀y∈gs.set i (g,cs,t),y.1∈gs.map Prod.fst:=fun y hy=>by rw[←hfst];exact List.mem_map_of_mem hy
 refine⟨fun x hx=>⟨x.dep w w' (h.f x hx).1 (by omega) fun k hk=>hoth k (((h.f x hx).2 k hk).2 _ hmem),fun k hk=>⟨by rw[hz];exact((h.f x hx).2 k hk).1,fun y hy=>?_⟩⟩,fun y hy=>?_,by rw[hfst];exact h.d⟩
 ·obtain⟨z,hz2,ez⟩:=List.mem_map.1 (hsub y hy)
  rw[←ez]
  exact((h.f x hx).2 k hk).2 z hz2
 ·obtain⟨k,hk,ek⟩:=List.mem_iff_getElem.1 hy
  rw[List.getElem_set] at ek
  split at ek
  ·subst ek
   exact hrow
  ·rename_i hne
   have hk':k<gs.length:=by simpa using hk
   have hy2:y∈gs:=ek ▸ List.getElem_mem hk'
   have hne2:y.1≠g:=fun e=>by
    have n1:(gs.map Prod.fst)[k]? = some g:=by rw[List.getElem?_map,List.getElem?_eq_getElem hk',ek];simp[e]
    have n2:(gs.map Prod.fst)[i]? = some g:=by rw[List.getElem?_map,hi];rfl
    have hi':i<(gs.map Prod.fst).length:=(List.getElem?_eq_some_iff.1 n2).1
    exact hne ((List.getElem?_inj hi' h.d).1 (n2.trans n1.symm))
   exact(hoth _ hne2).trans (h.g y hy2)
theorem EnvF.setCells(h:EnvF w fs gs)(i:Nat){g:Nat}{old cs:Array Value}{t:TypeId}(hi:gs[i]? = some (g,old,t))(vs:List Value)(hcs:upd old 0 vs=cs):EnvF (w.setCells g 0 vs) fs (gs.set i (g,cs,t)):=by
 subst hcs
 exact h.turn i hi (setCells_row g t vs 0 w old (h.row i hi)) (setCells_other g vs 0 w) (setCells_size g vs 0 w)
theorem EnvF.sub{fs':List Fact}{gs':List Bx}(h:EnvF w fs gs)(h1 : ∀x∈fs',x∈fs)(h3:List.Sublist gs' gs):EnvF w fs' gs':=
 ⟨fun x hx=>⟨(h.f x (h1 x hx)).1,fun k hk=>⟨((h.f x (h1 x hx)).2 k hk).1,fun y hy=>((h.f x (h1 x hx)).2 k hk).2 y (h3.subset hy)⟩⟩,fun y hy=>h.g y (h3.subset hy),h.d.sublist (h3.map _)⟩
theorem EnvF.less(h:EnvF w fs gs){y:Fact}(hy:y∈fs)(hx:x.is w)(hon : ∀k,x.on k→y.on k):EnvF w (x::fs) gs:=
 ⟨fun z hz=>by
  rcases List.mem_cons.1 hz with rfl | hz
  ·exact⟨hx,fun k hk=>(h.f y hy).2 k (hon k hk)⟩
  ·exact h.f z hz,h.g,h.d⟩
end
def bF(A:Option Addr)(n:Nat)(xs:List UInt8):Fact where
 on k:=0<n∧∃o,A=some ⟨k,o,none⟩
 is w:=Bs w w.heap.size A n xs
 dep w w' h hz hk:=⟨h.1,fun hn=>by
  obtain⟨b,o,e,hb,hc⟩:=h.2 hn
  exact⟨b,o,e,by omega,fun j hj=>(World.cell?_of_block (hk b ⟨hn,o,e⟩)).trans (hc j hj)⟩⟩
section
variable {w w':World}{fs:List Fact}{gs:List Bx}
theorem EnvF.bs(h:EnvF w fs gs){A:Option Addr}{n:Nat}{xs:List UInt8}(hm:bF A n xs∈fs):Bs w w.heap.size A n xs:=(h.f _ hm).1
theorem bs_on{A:Option Addr}{n:Nat}{xs:List UInt8}(h:Bs w w.heap.size A n xs) : ∀k,(bF A n xs).on k→k<w.heap.size:=fun k hk=>by
 obtain⟨hn,o,e⟩:=hk
 obtain⟨b,o',e',hb,_⟩:=h.2 hn
 rw[e] at e'
 cases e'
 exact hb
theorem HandS.handF{B:Nat}{A:Option Addr}{n c:Nat}{xs:List UInt8}(h:HandS w B A n c xs):HandF w B (bF A n xs):=⟨h.1,fun k hk=>by
 have h1:=bs_on h.1 k hk
 obtain⟨hn,o,e⟩:=hk
 exact⟨h.2.1 hn k o e,h1⟩⟩
theorem EnvF.handS(h:EnvF w fs gs)(hb:Below w.heap.size w w'){A:Option Addr}{n c:Nat}{xs:List UInt8}(ho:HandS w' w.heap.size A n c xs):EnvF w' (bF A n xs::fs) gs:=h.hand hb ho.handF
theorem EnvF.none_(h:EnvF w fs gs)(A:Option Addr):EnvF w (bF A 0 []::fs) gs:=
 ⟨fun y hy=>by
  rcases List.mem_cons.1 hy with rfl | hy
  ·exact⟨Bs.empty _ _ _,fun k hk=>absurd hk.1 (by omega)⟩
  ·exact h.f y hy,h.g,h.d⟩
theorem EnvF.litg(h:EnvF w fs gs)(t:TypeId)(xs:List UInt8)(cs:Array Value)(hx:(xs.map bv).toArray=cs)(n:Nat)(hn:xs.length=n)(g:Nat)(hg:w.heap.size=g):EnvF (w.alloc (.cells cs t)) (bF (some ⟨g,0,none⟩) n xs::fs) gs:=by
 subst hn
 refine h.hand ((Below.refl _ w).alloc (Nat.le_refl _) _) ⟨?_,fun k hk=>?_⟩
 ·have:=bs_lit w t xs cs g hg hx
  rw[←hg] at this
  show Bs (w.alloc _) (w.alloc _).heap.size _ _ _
  rw[World.size_alloc,←hg]
  exact this
 ·obtain⟨_,o,e⟩:=hk
  cases e
  simp
  omega
end
theorem wpListG_get{P:Program}{ops:Array Oper}{rest:List Oper}{op:Oper}{a:Act}{w:World}{Q:Exit→Act→World→Prop}(hw:Region.wanted op (yielded ops a.tmps)=true)(ty:TypeId)(x:Operand)(ho:op.op = .load ty x)
  (g o:Nat) (hx:a.eval x = .pointer (some ⟨g,o,none⟩)) (t:TypeId) (cs:Array Value) (v:Value) (d:TypeDesc) (hg:w.heap[g]? = some (.cells cs t)) (hv:cs[o]? = some v)
  (hu:P.underlying ty=some d) (hd:(match d with | .struct _ | .array _ _=>true | _=>false)=false)
  (h:wpList P ops Q rest (a.put op.dst v) w):wpList P ops Q (op::rest) a w:=
 wpList_step fun _ hK=>by rw[if_pos hw];exact wp_get ty x ho g o hx t cs v d hg hv hu hd (hK _ _ h)
theorem wpListG_row{P:Program}{ops:Array Oper}{rest:List Oper}{op:Oper}{a:Act}{w:World}{Q:Exit→Act→World→Prop}(hw:Region.wanted op (yielded ops a.tmps)=true)(ty:TypeId)(x:Operand)(ho:op.op = .load ty x)
  (g:Nat) (hx:a.eval x = .pointer (some ⟨g,0,none⟩)) (t:TypeId) (cs:Array Value) (d:TypeDesc) (hg:w.heap[g]? = some (.cells cs t))
  (hu:P.underlying ty=some d) (hd:(match d with | .struct _ | .array _ _=>true | _=>false)=true) (hi:(P.info? ty).map (·.size)=some cs.size)
  (h:wpList P ops Q rest (a.put op.dst (.agg cs)) w):wpList P ops Q (op::rest) a w:=
 wpList_step fun _ hK=>by rw[if_pos hw];exact wp_load_row ty x ho g hx t cs (0,0) d hg hu hd hi (hK _ _ h)
theorem cells2_row{w:World}{g:Nat}{a b:Value}{t:TypeId}(h:w.heap[g]? = some (.cells #[a,b] t)):w.cell? ⟨g,0,none⟩=some a∧w.cell? ⟨g,1,none⟩=some b:=by
 refine⟨?_,?_⟩<;>rw[cell_of_row w g _ _ t (0,0) h]<;>rfl
theorem cells1_row{w:World}{g:Nat}{a:Value}{t:TypeId}(h:w.heap[g]? = some (.cells #[a] t)):w.cell? ⟨g,0,none⟩=some a:=by
 rw[cell_of_row w g _ _ t (0,0) h];rfl
theorem cells4_row{w:World}{g:Nat}{a b c d:Value}{t:TypeId}(h:w.heap[g]? = some (.cells #[a,b,c,d] t)):w.cell? ⟨g,0,none⟩=some a∧w.cell? ⟨g,1,none⟩=some b∧w.cell? ⟨g,2,none⟩=some c∧w.cell? ⟨g,3,none⟩=some d:=c4_row h
end Go.Proofs.YtahiajeggbpogaaGreatDoor
namespace Go.Proofs.YtahiajeggbpogaaGreatDoor
open Go.RowKit
def SeqS{α:Type}(F:Fence)(n:Nat)(P:Program)(g:Nat)(lb:Array Value)(encs:α→Array Value)(Kp St:World→World→Prop)(V:List α→α→World→Prop)(S:List α→Prop)(N:Nat)(w:World):Prop:=
 ∀(l:Nat) (J:List α→World→Prop) (W:World),Below w.heap.size w W→AbidesFrom W.heap.size J→(∀(pre:List α) (A B:World),J pre A→St A B→J pre B)→
  (∀pre x W1,J pre W1→V pre x W1→pre.length<N→YieldAt F (n-1) P l (encs x) W1 fun e W'=>e = .returned (.bool true)∧J (pre++[x]) W'∧Kp W1 W')→
  J [] W→CallsIn F n P g (#[.func (.yield l) #[] #[]]++lb) W fun e W'=>(∃v,e = .returned v)∧∃xs,S xs∧J xs W'
theorem wpIn_rangeFunc_state{F:Fence}{n:Nat}{P:Program}{α:Type}{g:Operand}{ps:Array Tmp}{assign body:Code}{Q:Exit→Act→World→Prop}{a:Act}{w:World}
  (hro:F.round=none) (h1:1≤n) {gf:Nat} {lb:Array Value} (hg:a.eval g = .func (.func gf) #[] lb) (hFg:F.fn gf) (eg : ∀args w,(callFunc gf args).run P w = .ok (.enter gf args) w)
  {encs:α→Array Value} {Kp St:World→World→Prop} {V:List α→α→World→Prop} {S:List α→Prop} {N:Nat} (hseq:SeqS F (n-1) P gf lb encs Kp St V S N w)
  (hKt : ∀{A B C:World},Kp A B→Kp B C→Kp A C) (hKb : ∀(W:World) (l:Nat) (o o':Obj),w.heap.size≤l→W.heap[l]? = some o→o.isCells=false→o.isWalk=false→Kp W (W.putObj l o')) (hps : ∀x,(encs x).size=ps.size)
  (hSt : ∀(A B:World) (l:Nat) (o:Obj),St A B→A.heap[l]? = some o→o.isCells=false→B.heap[l]? = some o)
  (I:List α→World→Prop) (hI:OwnFrom w.heap.size I) (hIs : ∀(pre:List α) (A B:World),I pre A→St A B→I pre B) (h0:I [] w) (Ax:List α→α→Act→World→Prop) (hAx : ∀pre x a',OwnFrom w.heap.size (fun(_:Unit) W=>Ax pre x a' W))
  (hassign : ∀(l:Nat) (pre:List α) (x:α) (W:World) (K:Act→World→Prop),I pre W→V pre x W→(∀a' W',KeepsFrom w.heap.size W W'→Kp W W'→I pre W'→Ax pre x a' W'→K a' W')→
   assign.wpIn (F.inRound l) (n-1-1) P (Exit.then K (fun _ _ _=>False)) { tmps:=(ps.zip (encs x)).foldl (fun t (p,v)=>t.setIfInBounds p v) a.tmps,defers:=[] } W)
  (hbody : ∀(l:Nat) (pre:List α) (x:α) (a':Act) (W:World),w.heap.size≤l→I pre W→Ax pre x a' W→pre.length<N→
   body.wpIn (F.inRound l) (n-1-1) P (ownPostG w.heap.size Kp I (fun _ _ _=>False) (pre++[x]) W) a' W)
  (hdone : ∀(D:Nat) (xs:List α) (W:World),w.heap.size≤D→S xs→I xs W→W.heap[D]? = some (.deferred (some []))→Q .normal { a with defers:={ target:=.collected D,args:=#[] }::a.defers } W) :
  (Code.rangeFunc g ps assign body).wpIn F n P Q a w:=by
 refine wpIn_rangeFunc fun fn hfn=>?_
 rw[hro]
 let R:LoopState→Option Code→Loop:=fun st pe=>{ state:=st,pending:=pe,fn,tmps:=a.tmps,params:=ps,assign,body,defers:=w.heap.size }
 have hW : ∃W0,(w.alloc (.deferred (some []))).alloc (.loop (R .ready none))=W0:=⟨_,rfl⟩
 obtain⟨W0,eW⟩:=hW
 have L0:W0.heap[w.heap.size+1]? = some (.loop (R .ready none)):=by
  have h:=World.alloc_heap_new (w.alloc (.deferred (some []))) (.loop (R .ready none))
  rw[World.size_alloc,eW] at h
  exact h
 have D0:W0.heap[w.heap.size]? = some (.deferred (some [])):=by
  rw[←eW]
  exact(Below.heap_alloc _ _ _ (by simp)).trans (World.alloc_heap_new w _)
 have I0:I [] W0:=by rw[←eW];exact hI.alloc _ (hI.alloc _ h0)
 have B0:Below w.heap.size w W0:=by rw[←eW];exact((Below.refl _ w).alloc (Nat.le_refl _) _).alloc (by simp) _
 have z0:W0.heap.size=w.heap.size+2:=by rw[←eW];simp
 let J:List α→World→Prop:=fun pre W=>I pre W∧W.heap[w.heap.size+1]? = some (.loop (R .ready none))∧W.heap[w.heap.size]? = some (.deferred (some []))
 refine⟨w.heap.size+1,[{ target:=.collected w.heap.size,args:=#[] }],W0,{ target:=.fn (.func gf) lb,args:=#[.func (.yield (w.heap.size+1)) #[] #[]] },W0,gf,
  #[.func (.yield (w.heap.size+1)) #[] #[]]++lb,W0,?_,?_,?_,?_,fun _=>h1,?_⟩
 ·rw[←eW];exact run_enterLoop_outer _ _ _ _ _
 ·simp only[resolve,hg]
  simp[go_sem]
 ·intro f' hf';simp[Target.leads] at hf';subst hf';exact hFg
 ·simp[invoke,go_sem,eg]
 ·refine(hseq (w.heap.size+1) J W0 B0 ?_ ?_ ?_ ⟨I0,L0,D0⟩).mono ?_
  ·intro s A B row hs hg' hr
   have hr1 : ∀r,row=some r→w.heap.size≤r∧∃o:Obj,A.heap[r]? = some o∧o.isCells=false:=fun r e=>by
    obtain⟨hB,o,ho,hw⟩:=hr r e
    exact⟨by omega,o,ho,Obj.not_cells_of_walk hw⟩
   exact⟨hI s A B row hs.1 hg' hr1,(grownBy_keeps hg' (fun r e=>(hr r e).2) hs.2.1 rfl).trans hs.2.1,(grownBy_keeps hg' (fun r e=>(hr r e).2) hs.2.2 rfl).trans hs.2.2⟩
  ·intro pre A B hs hst
   exact⟨hIs pre A B hs.1 hst,hSt _ _ _ _ hst hs.2.1 rfl,hSt _ _ _ _ hst hs.2.2 rfl⟩
  ·intro pre x W hs hv hlen
   obtain⟨hi,hl,hk⟩:=hs
   have hy:=run_yield (P:=P) (args:=encs x) hl (hps x)
   refine⟨fn,_,assign,body,hy,roundIn_of_wpIn hfn (hassign _ pre x W _ hi hv ?_)⟩
   intro a' Wa hka hpa hia hax
   have hla:=hka.same _ _ (by omega) hl rfl
   have hda:=hka.same _ _ (Nat.le_refl _) hk rfl
   have lt1:w.heap.size+1<Wa.heap.size:=(Array.getElem?_eq_some_iff.1 hla).1
   refine⟨_,run_beginRound hla rfl,?_⟩
   have hlb:(Wa.putObj (w.heap.size+1) (.loop (R .busy none))).heap[w.heap.size+1]? = some (.loop (R .busy none)):=World.putObj_heap_same lt1
   have hdb:(Wa.putObj (w.heap.size+1) (.loop (R .busy none))).heap[w.heap.size]? = some (.deferred (some [])):=(World.putObj_heap_other (by omega)).trans hda
   have hkb:Kp Wa (Wa.putObj (w.heap.size+1) (.loop (R .busy none))):=hKb _ _ _ _ (by omega) hla rfl rfl
   refine wpIn_mono (hbody _ pre x a' _ (by omega) (hI.putObj _ hia (by omega) hla rfl) ((hAx pre x a').putObj (s:=()) _ hax (by omega) hla rfl) hlen) ?_
   rintro e a3 W3 hp
   cases e with
   | normal=>
    obtain⟨h3,hp3,hi3⟩:=hp
    have hl3:=h3.same _ _ (by omega) hlb rfl
    have hd3:=h3.same _ _ (Nat.le_refl _) hdb rfl
    refine⟨_,_,run_endRound (P:=P) none hl3,rfl,⟨hI.putObj _ hi3 (by omega) hl3 rfl,World.putObj_heap_same (Array.getElem?_eq_some_iff.1 hl3).1,(World.putObj_heap_other (by omega)).trans hd3⟩,hKt hpa (hKt (hKt hkb hp3) (hKb _ _ _ _ (by omega) hl3 rfl rfl))⟩
   | ret=>exact hp.2.elim
   | exit id=>exact hp.2.elim
   | goto t=>exact hp.2.elim
   | panic ch=>exact hp.elim
   | outgrown=>exact hp.elim
  ·rintro e W2 ⟨⟨v,rfl⟩,xs,hS,hi,hl,hk⟩
   exact⟨none,_,run_endLoop (P:=P) hl (by simp[R]),hdone _ xs _ (Nat.le_refl _) hS (hI.putObj _ hi (by omega) hl rfl) ((World.putObj_heap_other (by omega)).trans hk)⟩
end Go.Proofs.YtahiajeggbpogaaGreatDoor
namespace Go.Proofs.YtahiajeggbpogaaGreatDoor
open Go.RowKit
section
variable {w w':World}{B B':Nat}{t:TypeId}{v:Value}{xs:List UInt8}
theorem OwnB.iscells(h:OwnB w B t v xs){k:Nat}(hk:v.ownBlock=some k) : ∃o:Obj,w.heap[k]? = some o∧o.isCells=true:=by
 rcases h.2 with ⟨rfl,_⟩ | ⟨g,cap,cur,rfl,_,hh,_⟩
 ·cases hk
 ·cases hk
  exact⟨_,hh,rfl⟩
theorem OwnB.other{row:Option Nat}(h:OwnB w B t v xs)(hg:w.grownBy w' row)(hr : ∀k,row=some k→∃o:Obj,w.heap[k]? = some o∧o.isCells=false):OwnB w' B t v xs:=
 h.beside hg fun k hk e=>by
  obtain⟨o,ho,hc⟩:=hr k e
  obtain⟨o2,ho2,hc2⟩:=h.iscells hk
  rw[ho] at ho2
  cases ho2
  rw[hc] at hc2
  cases hc2
theorem OwnB.first{A:Option Addr}{n c:Nat}{x:UInt8}(h:OwnB w B t (.slice A n c) (x::xs)) :
  ∃g,A=some ⟨g,0,none⟩∧n=xs.length+1∧n≤c∧B≤g∧g<w.heap.size∧w.frozen? ⟨g,0,none⟩=false∧w.cell? ⟨g,0,none⟩=some (bv x)∧
   ∀(W:World) (y:UInt8),W.heap[g]? = w.heap[g]?→Bs (W.setCell ⟨g,0,none⟩ (bv y)) W.heap.size A n (y::xs):=by
 rcases h.2 with ⟨_,h0⟩ | ⟨g,cap,cur,e,hB,hh,hle,hmax,hs,htake⟩
 ·simp at h0
 ·cases e
  have hlt:g<w.heap.size:=(Array.getElem?_eq_some_iff.1 hh).1
  have hc : ∀j,j<xs.length+1→w.cell? ⟨g,j,none⟩=some (bv ((x::xs)[j]?.getD 0)):=fun j hj=>by
   have hc:=World.ownsRow.cellAt (base:=B) (e:=t) (size:=1) (cap:=c) (xs:=(x::xs).map bv) (w:=w) (g:=g) (n:=(x::xs).length) ⟨by simp,.inr ⟨g,c,cur,rfl,hB,hh,hle,hmax,hs,htake⟩⟩ j (by simpa using hj)
   rw[hc,List.getElem?_map,List.getElem?_eq_getElem (by simpa using hj)]
   rfl
  refine⟨g,rfl,by simp,hle,hB,hlt,frozen_of_row w g 0 _ _ hh,hc 0 (by omega),fun W y hW=>⟨by simp,fun _=>⟨g,0,rfl,?_,fun j hj=>?_⟩⟩⟩
  ·rw[hh] at hW
   exact(Array.getElem?_eq_some_iff.1 hW).1
  ·have hj':j<xs.length+1:=by simpa using hj
   rw[Nat.zero_add]
   have hcj:W.cell? ⟨g,j,none⟩=w.cell? ⟨g,j,none⟩:=World.cell?_of_block hW
   rcases Nat.eq_zero_or_pos j with h0 | h0
   ·subst h0
    refine(World.cell?_setCell_same' _ _ _ (by rw[hcj,hc 0 (by omega)];rfl)).trans ?_
    rfl
   ·refine(World.cell?_setCell_other _ _ _ _ (fun e=>by cases e;omega)).trans ?_
    rw[hcj,hc j hj']
    obtain⟨i,rfl⟩ : ∃i,j=i+1:=⟨j-1,by omega⟩
    rfl
end
theorem wpListIn_append_full{F:Fence}{fu:Nat}{P:Program}(w:World){ops:Array Oper}{rest:List Oper}{o:Oper}{a:Act}{Q:Exit→Act→World→Prop}(hgd:o.guard=none)(s x:Operand)(t:TypeId)
  (ho:o.op = .call { callee:=.builtin .append,args:=#[s,x],argTypes:=#[t,t] })
  (base:Nat) (e:TypeId) (i:TypeInfo) (ht:P.underlying t=some (.slice e)) (hi:P.info? e=some i) (hz:i.zero=some (.int .u8 0)) (hsize:i.size=1) (hby:i.bytes=1)
  (v:Value) (ys:List UInt8) (hs:a.eval s=v) (hown:OwnB w base e v ys)
  (ad:Addr) (m c:Nat) (xs:List UInt8) (hx:a.eval x = .slice (some ad) m c) (hcells : ∀j u,(xs.map bv)[j]? = some u→w.cell? (ad.add j)=some u) (hm:xs.length=m)
  (hlen:ys.length+m≤1000000) (hbase:base≤w.heap.size)
  (h : ∀v' w',OwnB w' base e v' (ys++xs)→Below base w w'→w.grownBy w' v.ownBlock→(v'.ownBlock=v.ownBlock∨v'.ownBlock=some w.heap.size)→wpListIn F fu P ops Q rest (a.put o.dst v') w'):wpListIn F fu P ops Q (o::rest) a w:=by
 refine wpListIn_plain hgd fun K hK=>?_
 obtain⟨v',w',hrun,h2,h3,h4,h5⟩:=run_append_own_at (P:=P) w base t o.type e i (.int .u8 0) 1 1 ht hi hz hsize hby rfl (by decide) v ys.length (ys.map bv) hown ad m c (xs.map bv) (by rw[List.length_map,hm,Nat.mul_one]) hcells (bv_one xs) (by unfold maxLen;omega) (by omega) hbase
 unfold Oper.wpIn
 refine⟨?_,?_⟩
 ·simp[Oper.about,ho,resolve,Target.leads,Sem.run_pure]
 ·rw[Oper.semAt_plain F _ _ (by rw[ho];intro c hc';cases hc')]
  simp[execOp,ho,resolve,invoke,builtin,hs,hx,hrun,Result.andThen]
  refine hK _ _ (h v' w' ?_ ((Below.refl base w).grown h3 hbase (fun k hk=>(World.ownsRow.lt hown k hk).1)) h3 ?_)
  ·unfold OwnB
   rw[List.map_append,List.length_append,hm]
   exact h2
  ·rcases h5 with h5 | h5
   ·exact .inl (by rw[h5])
   ·exact .inr h5
theorem heap_kept{W W':World}{row:Option Nat}{k:Nat}{cs:Array Value}{t:TypeId}(hg:W.grownBy W' row)(hr : ∀r,row=some r→∃o:Obj,W.heap[r]? = some o∧o.isCells=false)(h:W.heap[k]? = some (.cells cs t)):W'.heap[k]? = some (.cells cs t):=by
 refine(hg.block k (Array.getElem?_eq_some_iff.1 h).1 (fun e=>?_)).trans h
 obtain⟨o,ho,hc⟩:=hr k e.symm
 rw[h] at ho
 cases ho
 cases hc
structure GatherB (w:World) (g B:Nat) (s t:TypeId) (pre:List UInt8) (W:World):Prop where
 row : ∃v,W.heap[g]? = some (.cells #[v] s)∧OwnB W B t v pre
 below:Below w.heap.size w W
 size:B≤W.heap.size
theorem gatherB_own{w:World}{g B B':Nat}{s t:TypeId}(hB:w.heap.size≤B'):OwnFrom B' (GatherB w g B s t):=by
 intro pre W W' row hs hg hr
 have hr' : ∀k,row=some k→∃o:Obj,W.heap[k]? = some o∧o.isCells=false:=fun k e=>(hr k e).2
 obtain⟨v,h1,h3⟩:=hs.row
 exact⟨⟨v,heap_kept hg hr' h1,h3.other hg hr'⟩,hs.below.grown hg hs.below.size (fun k e=>Nat.le_trans hB (hr k e).1),Nat.le_trans hs.size hg.size⟩
theorem gatherB_set{w:World}{g B Bn:Nat}{s t:TypeId}(h0:w.heap.size≤Bn)(hne:g≠Bn)(hB:Bn<B)(pre:List UInt8)(A:World)(u:Value)(h:GatherB w g B s t pre A):GatherB w g B s t pre (A.setCell ⟨Bn,0,none⟩ u):=by
 obtain⟨v,h1,h2⟩:=h.row
 have ho : ∀k,k≠Bn→(A.setCell ⟨Bn,0,none⟩ u).heap[k]? = A.heap[k]?:=fun k hk=>Below.heap_setCell _ _ _ _ (by simpa using hk)
 exact⟨⟨v,(ho _ hne).trans h1,h2.above fun k hk=>ho k (by omega)⟩,h.below.setCell (p:=⟨Bn,0,none⟩) h0 _,by simpa [World.setCell] using h.size⟩
theorem gatherB_round{w W W2:World}{g B R:Nat}{s t:TypeId}{pre:List UInt8}{x:UInt8}{o:Obj}{u v':Value}{a:Act}(Kp:World→World→Prop)(p:Nat→Prop)(hKp : ∀A B:World,KeepC p A B→A.heap.size≤B.heap.size→Kp A B)(hg1:w.heap.size≤g)(hgB:g<B)(hB1:B≤W.heap.size)(hp : ∀j,p j→j<B∧j≠g)
  (h1:W.heap[g]? = some (.cells #[u] s)) (ho:OwnB W B t u pre) (hbw:Below w.heap.size w W)
  (hbl:Below B (W.alloc o) W2) (hgr:(W.alloc o).grownBy W2 u.ownBlock) (hown:OwnB W2 B t v' (pre++[x])) :
  ownPostG R Kp (GatherB w g B s t) (fun _ _ _=>False) (pre++[x]) W Exit.normal a (W2.setCell ⟨g,0,none⟩ v'):=by
 have hb2:Below B W W2:=((Below.refl B W).alloc hB1 o).trans hbl
 have hset : ∀k,k≠g→(W2.setCell ⟨g,0,none⟩ v').heap[k]? = W2.heap[k]?:=fun k hk=>Below.heap_setCell _ _ _ _ (by simpa using hk)
 have hc2:W2.heap[g]? = some (.cells #[u] s):=(hb2.block g hgB).trans h1
 refine⟨⟨by simpa [World.setCell] using hb2.size,fun k o2 _ hk ho2=>?_⟩,hKp _ _ (fun j o2 hpj hj _=>?_) (by simpa [World.setCell] using hb2.size),⟨⟨v',?_,?_⟩,?_,?_⟩⟩
 ·have hkl:=(Array.getElem?_eq_some_iff.1 hk).1
  have n1:k≠g:=fun e=>by
   subst e
   rw[h1] at hk
   cases hk
   cases ho2
  have n2:u.ownBlock≠some k:=fun e=>by
   obtain⟨o1,ho1,hc1⟩:=ho.iscells e
   have:some o2=some o1:=hk.symm.trans ho1
   cases this
   rw[hc1] at ho2;cases ho2
  rw[hset k n1,hgr.block k (by simp;omega) (fun e=>n2 e.symm),Below.heap_alloc _ _ _ hkl]
  exact hk
 ·rw[hset j (hp j hpj).2,hb2.block j (hp j hpj).1];exact hj
 ·exact(Go.heap_setCell_same W2 g 0 _ _ _ hc2).trans rfl
 ·exact hown.above fun k hk=>hset k (by omega)
 ·exact(hbw.trans (hb2.mono (by have:=hbw.size;omega))).setCell (p:=⟨g,0,none⟩) hg1 _
 ·exact Nat.le_trans hB1 (by simpa [World.setCell] using hb2.size)
end Go.Proofs.YtahiajeggbpogaaGreatDoor
namespace Go.Proofs.YtahiajeggbpogaaGreatDoor
open Go.RowKit
def jump2(l m:Nat)(J K:Act→World→Prop)(Q:Exit→Act→World→Prop):Exit→Act→World→Prop
 | .goto l',a,w=>(l'=l∧J a w)∨(l'=m∧K a w)
 | e,a,w=>Q e a w
@[go_sem] theorem jump2_normal (l m:Nat) (J K:Act→World→Prop) (Q:Exit→Act→World→Prop) (a:Act) (w:World):jump2 l m J K Q .normal a w=Q .normal a w:=rfl
@[go_sem] theorem jump2_exit (l m:Nat) (J K:Act→World→Prop) (Q:Exit→Act→World→Prop) (id:Nat) (a:Act) (w:World):jump2 l m J K Q (.exit id) a w=Q (.exit id) a w:=rfl
@[go_sem] theorem jump2_ret (l m:Nat) (J K:Act→World→Prop) (Q:Exit→Act→World→Prop) (a:Act) (w:World):jump2 l m J K Q .ret a w=Q .ret a w:=rfl
end Go.Proofs.YtahiajeggbpogaaGreatDoor
namespace Go.Proofs.YtahiajeggbpogaaGreatDoor
open Go.RowKit Go.ChangeMaps
def MapL(w:World)(P:Program)(k:TypeId)(b:Nat)(l:List (Value×Value)):Prop:=
 ∃es clock,w.heap[b]? = some (.map es clock)∧es.toList.map (fun e=>(e.key,e.val))=l∧(∀p∈l,∃q,keyOf P k p.1=some q)∧(l.map Prod.fst).Nodup
section
variable {P:Program}{k e t:TypeId}{w w':World}{b:Nat}{l:List (Value×Value)}{key val v z:Value}
theorem MapL.lt(h:MapL w P k b l):b<w.heap.size:=by
 obtain⟨es,clock,hb,_⟩:=h
 exact(Array.getElem?_eq_some_iff.1 hb).1
theorem MapL.same(h:MapL w P k b l)(hb:w'.heap[b]? = w.heap[b]?):MapL w' P k b l:=by
 obtain⟨es,clock,h1,h2⟩:=h
 exact⟨es,clock,hb.trans h1,h2⟩
theorem MapL.below(h:MapL w P k b l)(hb:Below w.heap.size w w'):MapL w' P k b l:=h.same (hb.block b h.lt)
theorem MapL.made(w:World)(P:Program)(k:TypeId):MapL (w.alloc (.map #[] 0)) P k w.heap.size []:=
 ⟨#[],0,World.alloc_heap_new w _,rfl,fun _ h=>(by cases h),by simp⟩
theorem MapL.update(h:MapL w P k b l)(K:Maps.Keyed P k)(ht:P.underlying t=some (.map k e)){q:Lit}(hkey:keyOf P k key=some q)(hno : ∀p∈l,p.1≠key)(val:Value) :
  ∃w',(Instr.mapUpdate t (.map (some b)) key val).run P w = .ok () w'∧MapL w' P k b (l++[(key,val)])∧w.grownBy w' (some b):=by
 obtain⟨es,clock,hb,rfl,hk,hd⟩:=h
 have hks : ∀x∈es.toList,∃q,keyOf P k x.key=some q:=fun x hx=>hk (x.key,x.val) (List.mem_map.2 ⟨x,hx,rfl⟩)
 rcases K.find w hkey es.toList hks with ⟨h1,h2⟩ | ⟨j,e0,h1,h2,h3⟩
 ·refine⟨setBlock w b (.map (es.push ⟨key,val,clock⟩) (clock+1)),?_,⟨es.push ⟨key,val,clock⟩,clock+1,heap_setBlock_same hb _,by simp,fun p hp=>?_,?_⟩,⟨rfl,rfl,rfl,by simp[setBlock],fun i _ hi=>heap_setBlock_other hb _ (fun e=>hi (by rw[e]))⟩⟩
  ·simp[Instr.mapUpdate,run_underlying ht,MapKept.run_getObj_map hb,K.check w false hkey,h1,MapKept.run_setObj_map _ hb,Result.andThen,setBlock]
  ·rcases List.mem_append.1 hp with hp | hp
   ·exact hk p hp
   ·rw[List.mem_singleton.1 hp];exact⟨q,hkey⟩
  ·rw[List.map_append,List.nodup_append]
   refine⟨hd,by simp,fun a ha c hc=>?_⟩
   obtain⟨p,hp,rfl⟩:=List.mem_map.1 ha
   simp only[List.map_cons,List.map_nil,List.mem_singleton] at hc
   rw[hc]
   exact hno p hp
 ·exact absurd h3 (hno (e0.key,e0.val) (List.mem_map.2 ⟨e0,List.mem_of_getElem? h2,rfl⟩))
theorem MapL.look_no(h:MapL w P k b l)(K:Maps.Keyed P k)(ht:P.underlying t=some (.map k e))(hz:(zeroValue e).run P w = .ok z w){q:Lit}(hkey:keyOf P k key=some q)(hno : ∀p∈l,p.1≠key) :
  (Instr.lookup t (.map (some b)) key true).run P w = .ok (.tuple #[z,.bool false]) w:=by
 obtain⟨es,clock,hb,rfl,hk,hd⟩:=h
 have hks : ∀x∈es.toList,∃q,keyOf P k x.key=some q:=fun x hx=>hk (x.key,x.val) (List.mem_map.2 ⟨x,hx,rfl⟩)
 rcases K.find w hkey es.toList hks with ⟨h1,h2⟩ | ⟨j,e0,h1,h2,h3⟩
 ·simp[Instr.lookup,run_underlying ht,MapKept.run_getObj_map hb,K.check w _ hkey,h1,hz,Result.andThen]
 ·exact absurd h3 (hno (e0.key,e0.val) (List.mem_map.2 ⟨e0,List.mem_of_getElem? h2,rfl⟩))
theorem MapL.look_yes(h:MapL w P k b l)(K:Maps.Keyed P k)(ht:P.underlying t=some (.map k e)){q:Lit}(hkey:keyOf P k key=some q)(hin:(key,v)∈l) :
  (Instr.lookup t (.map (some b)) key true).run P w = .ok (.tuple #[v,.bool true]) w:=by
 obtain⟨es,clock,hb,rfl,hk,hd⟩:=h
 have hks : ∀x∈es.toList,∃q,keyOf P k x.key=some q:=fun x hx=>hk (x.key,x.val) (List.mem_map.2 ⟨x,hx,rfl⟩)
 obtain⟨x1,hx1,he1⟩:=List.mem_map.1 hin
 cases he1
 rcases K.find w hkey es.toList hks with ⟨h1,h2⟩ | ⟨j,e0,h1,h2,h3⟩
 ·exact absurd rfl (h2 x1 hx1)
 ·have hv:e0.val=x1.val:=by
   obtain⟨i,hi,ei⟩:=List.mem_iff_getElem.1 hx1
   have hj:=(List.getElem?_eq_some_iff.1 h2)
   obtain⟨hj1,hj2⟩:=hj
   have g1:((es.toList.map (fun e=>(e.key,e.val))).map Prod.fst)[i]? = some x1.key:=by rw[List.getElem?_map,List.getElem?_map,List.getElem?_eq_getElem hi,ei];rfl
   have g2:((es.toList.map (fun e=>(e.key,e.val))).map Prod.fst)[j]? = some x1.key:=by rw[List.getElem?_map,List.getElem?_map,h2,←h3];rfl
   have hij:=(List.getElem?_inj (List.getElem?_eq_some_iff.1 g1).1 hd).1 (g1.trans g2.symm)
   subst hij
   rw[←hj2,ei]
  simp[Instr.lookup,run_underlying ht,MapKept.run_getObj_map hb,K.check w _ hkey,h1,Result.andThen,hv]
end
end Go.Proofs.YtahiajeggbpogaaGreatDoor
namespace Go.Proofs.YtahiajeggbpogaaGreatDoor
open Go.RowKit
theorem i64_and_mask(n m:Int)(k:Nat)(hk:k<63)(hm:(BitVec.ofInt 64 m).toNat=2 ^ k-1):bits .and .i64 n m=n % ((2 ^ k:Nat):Int):=by
 have key:(BitVec.ofInt 64 n &&& BitVec.ofInt 64 m).toNat=(n % ((2 ^ 64:Nat):Int)).toNat % 2 ^ k:=by
  rw[BitVec.toNat_and,BitVec.toNat_ofInt,hm,Nat.and_two_pow_sub_one_eq_mod]
 show IntKind.i64.wrap ((BitVec.ofInt 64 n &&& BitVec.ofInt 64 m).toNat:Nat)=_
 rw[key,IntKind.wrap_i64]
 have hd:(2 ^ k:Nat) ∣ 2 ^ 64:=Nat.pow_dvd_pow 2 (by omega)
 have h0:0≤n % ((2 ^ 64:Nat):Int):=Int.emod_nonneg _ (by decide)
 obtain⟨u,hu⟩:=Int.eq_ofNat_of_zero_le h0
 have hlt:u % 2 ^ k<2 ^ 63:=Nat.lt_of_lt_of_le (Nat.mod_lt _ (Nat.two_pow_pos k)) (Nat.pow_le_pow_right (by decide) (by omega))
 have e1:n % ((2 ^ k:Nat):Int)=((u % 2 ^ k:Nat):Int):=by
  have h1:n % ((2 ^ 64:Nat):Int) % ((2 ^ k:Nat):Int)=n % ((2 ^ k:Nat):Int):=Int.emod_emod_of_dvd n (Int.natCast_dvd_natCast.2 hd)
  rw[←h1,hu,Int.natCast_emod]
 rw[e1,hu,Int.toNat_natCast]
 have e2:(2:Nat) ^ 63=9223372036854775808:=by decide
 rw[e2] at hlt
 generalize u % 2 ^ k=z at *
 omega
theorem i64_and1(n:Int):bits .and .i64 n 1=n % 2:=i64_and_mask n 1 1 (by decide) (by decide)
theorem i64_and7(n:Int):bits .and .i64 n 7=n % 8:=i64_and_mask n 7 3 (by decide) (by decide)
theorem i64_and31(n:Int):bits .and .i64 n 2147483647=n % 2147483648:=i64_and_mask n 2147483647 31 (by decide) (by decide +kernel)
theorem i64_or_nat(a b:Nat)(ha:a<2 ^ 62)(hb:b<2 ^ 62):bits .or .i64 (a:Int) (b:Int)=((a ||| b:Nat):Int):=by
 have h1:(BitVec.ofInt 64 (a:Int)).toNat=a:=by
  rw[BitVec.ofInt_natCast,BitVec.toNat_ofNat];exact Nat.mod_eq_of_lt (by omega)
 have h2:(BitVec.ofInt 64 (b:Int)).toNat=b:=by
  rw[BitVec.ofInt_natCast,BitVec.toNat_ofNat];exact Nat.mod_eq_of_lt (by omega)
 have hx:a ||| b<2 ^ 62:=Nat.or_lt_two_pow ha hb
 show IntKind.i64.wrap ((BitVec.ofInt 64 (a:Int) ||| BitVec.ofInt 64 (b:Int)).toNat:Int)=_
 rw[BitVec.toNat_or,h1,h2,IntKind.wrap_i64]
 omega
theorem i64_or_join(a b k:Nat)(hb:b<2 ^ k)(ha:a*2 ^ k+b<2 ^ 62):bits .or .i64 ((a:Int)*((2 ^ k:Nat):Int)) (b:Int)=(a:Int)*((2 ^ k:Nat):Int)+b:=by
 have e:((a:Int)*((2 ^ k:Nat):Int))=((a*2 ^ k:Nat):Int):=by rw[Int.natCast_mul]
 rw[e,i64_or_nat _ _ (by omega) (by omega),nat_join k _ _ (by rw[Nat.mul_comm];exact Nat.mul_mod_right _ _) hb,Int.natCast_add]
end Go.Proofs.YtahiajeggbpogaaGreatDoor
namespace Go.Proofs.YtahiajeggbpogaaGreatDoor
open Go.RowKit
theorem cell_lt{w:World}{a:Addr}{v:Value}(h:w.cell? a=some v):a.block<w.heap.size:=by
 rcases Nat.lt_or_ge a.block w.heap.size with h1 | h1
 ·exact h1
 ·simp[World.cell?,Array.getElem?_eq_none h1] at h
end Go.Proofs.YtahiajeggbpogaaGreatDoor
namespace Go.Proofs.YtahiajeggbpogaaGreatDoor.Oct
theorem div_mod_bit(a t:Nat):a / 2 ^ t % 2=(a.testBit t).toNat:=(Nat.toNat_testBit a t).symm
theorem testBit_small(x j:Nat)(hx:x<2):x.testBit j=(decide (j=0)&&decide (x=1)):=by
 have:x=0∨x=1:=by omega
 rcases this with rfl | rfl
 ·simp
 ·cases j<;>simp[Nat.testBit_succ]
theorem or_bit(y x s t:Nat)(hx:x<2)(h0:y / 2 ^ s % 2=0):(y ||| x*2 ^ s) / 2 ^ t % 2=if t=s then x else y / 2 ^ t % 2:=by
 rw[div_mod_bit,Nat.testBit_or,Nat.testBit_mul_two_pow,testBit_small x (t-s) hx]
 by_cases h:t=s
 ·subst h
  rw[div_mod_bit] at h0
  have h1:y.testBit t=false:=by cases hb:y.testBit t<;>simp_all
  have hx':x=0∨x=1:=by omega
  rcases hx' with rfl | rfl<;>simp[h1]
 ·rw[if_neg h,div_mod_bit]
  by_cases hle:s≤t
  ·have : ¬t-s=0:=by omega
   simp[this]
  ·simp[hle]
def orB(y:UInt8)(x s:Nat):UInt8:=UInt8.ofNat (y.toNat ||| x*2 ^ s)
theorem or_lt(y:UInt8)(x s:Nat)(hx:x<2)(hs:s≤7):y.toNat ||| x*2 ^ s<256:=by
 have h1:x*2 ^ s<2 ^ 8:=by
  have h2:2 ^ s≤2 ^ 7:=Nat.pow_le_pow_right (by decide) hs
  have h3:x*2 ^ s≤1*2 ^ s:=Nat.mul_le_mul_right _ (by omega)
  omega
 exact Nat.or_lt_two_pow (n:=8) y.toNat_lt h1
theorem orB_toNat(y:UInt8)(x s:Nat)(hx:x<2)(hs:s≤7):(orB y x s).toNat=y.toNat ||| x*2 ^ s:=by
 have:=or_lt y x s hx hs
 simp only[orB,UInt8.toNat_ofNat']
 exact Nat.mod_eq_of_lt this
theorem bitOf_set(ys:List UInt8)(q:Nat)(z:UInt8)(i:Nat)(hq:q<ys.length):bitOf (ys.set q z) i=if i / 8=q then z.toNat / 2 ^ (7-i % 8) % 2 else bitOf ys i:=by
 unfold bitOf
 by_cases h:i / 8=q
 ·subst h;simp[hq]
 ·rw[if_neg h,List.getElem?_set_ne (by omega)]
theorem bitOf_out(xs:List UInt8)(i:Nat)(h:8*xs.length≤i):bitOf xs i=0:=by
 unfold bitOf
 rw[List.getElem?_eq_none (by omega)]
 simp
theorem bitOf_append(xs:List UInt8)(m i:Nat):bitOf (xs++List.replicate m 0) i=bitOf xs i:=by
 unfold bitOf
 by_cases h:i / 8<xs.length
 ·rw[List.getElem?_append_left h]
 ·rw[List.getElem?_append_right (by omega),List.getElem?_eq_none (by omega:xs.length≤i / 8),List.getElem?_replicate]
  split<;>simp
def layL(xs:List UInt8)(used:Nat)(pre:List (Fin 2))(i:Nat):Nat:=
 if i<used then bitOf xs i else ((pre[i-used]?).map (fun b=>b.val)).getD 0
structure Laying (xs:List UInt8) (used L:Nat) (pre:List (Fin 2)) (ys:List UInt8):Prop where
 len:ys.length=L
 bit : ∀i,i<8*L→bitOf ys i=layL xs used pre i
theorem laying_copy{xs:List UInt8}{used L:Nat}(hu:used=8*xs.length)(hL:xs.length≤L):Laying xs used L [] (xs++List.replicate (L-xs.length) 0):=by
 refine⟨by simp;omega,fun i _=>?_⟩
 rw[bitOf_append]
 unfold layL
 by_cases h:i<used
 ·rw[if_pos h]
 ·rw[if_neg h,bitOf_out _ _ (by omega)];rfl
theorem laying_step{xs:List UInt8}{used L:Nat}{pre:List (Fin 2)}{ys:List UInt8}(h:Laying xs used L pre ys)(x:Fin 2)(hp:used+pre.length<8*L){y:UInt8}
  (hy:ys[(used+pre.length) / 8]? = some y):Laying xs used L (pre++[x]) (ys.set ((used+pre.length) / 8) (orB y x.val (7-(used+pre.length) % 8))):=by
 have hlen:=h.len
 have hq:(used+pre.length) / 8<ys.length:=by omega
 refine⟨by simp[hlen],fun i hi=>?_⟩
 have hold:=h.bit i hi
 have h0:y.toNat / 2 ^ (7-(used+pre.length) % 8) % 2=0:=by
  have:=h.bit (used+pre.length) hp
  unfold bitOf layL at this
  rw[hy,if_neg (by omega)] at this
  simpa using this
 rw[bitOf_set _ _ _ _ hq]
 by_cases hi8:i / 8=(used+pre.length) / 8
 ·rw[if_pos hi8,orB_toNat _ _ _ x.isLt (by omega),or_bit _ _ _ _ x.isLt h0]
  have hb:y.toNat / 2 ^ (7-i % 8) % 2=bitOf ys i:=by unfold bitOf;rw[hi8,hy];rfl
  rw[hb,hold]
  by_cases hip:i=used+pre.length
  ·subst hip
   rw[if_pos rfl]
   unfold layL
   rw[if_neg (by omega)]
   simp
  ·rw[if_neg (by omega)]
   unfold layL
   by_cases h2:i<used
   ·rw[if_pos h2,if_pos h2]
   ·rw[if_neg h2,if_neg h2]
    by_cases h3:i-used<pre.length
    ·rw[List.getElem?_append_left h3]
    ·rw[List.getElem?_eq_none (by omega),List.getElem?_eq_none (by simp;omega)]
 ·rw[if_neg hi8,hold]
  unfold layL
  by_cases h2:i<used
  ·rw[if_pos h2,if_pos h2]
  ·rw[if_neg h2,if_neg h2]
   by_cases h3:i-used<pre.length
   ·rw[List.getElem?_append_left h3]
   ·have hne:i≠used+pre.length:=fun e=>hi8 (by rw[e])
    rw[List.getElem?_eq_none (by omega),List.getElem?_eq_none (by simp;omega)]
end Go.Proofs.YtahiajeggbpogaaGreatDoor.Oct
namespace Go.Proofs.YtahiajeggbpogaaGreatDoor
open Go.RowKit
theorem OwnB.sameBlock{w w':World}{B:Nat}{t:TypeId}{v:Value}{xs:List UInt8}(h:OwnB w B t v xs)(hk : ∀k,v.ownBlock=some k→w'.heap[k]? = w.heap[k]?):OwnB w' B t v xs:=by
 refine⟨h.1,?_⟩
 rcases h.2 with h2 | ⟨g,cap,cur,e,hg,hh,rest⟩
 ·exact .inl h2
 ·exact .inr ⟨g,cap,cur,e,hg,(hk g (by rw[e];rfl)).trans hh,rest⟩
structure GatherM (w:World) (g B0 B:Nat) (s t:TypeId) (pre:List UInt8) (W:World):Prop where
 row : ∃v,W.heap[g]? = some (.cells #[v] s)∧OwnB W B0 t v pre∧∀k,v.ownBlock=some k→k=B0∨B≤k
 below:Below w.heap.size w W
 size:B≤W.heap.size
theorem gatherM_own{w:World}{g B0 B B':Nat}{s t:TypeId}(hB:w.heap.size≤B'):OwnFrom B' (GatherM w g B0 B s t):=by
 intro pre W W' row hs hg hr
 have hr' : ∀k,row=some k→∃o:Obj,W.heap[k]? = some o∧o.isCells=false:=fun k e=>(hr k e).2
 obtain⟨v,h1,h3,h4⟩:=hs.row
 exact⟨⟨v,heap_kept hg hr' h1,h3.other hg hr',h4⟩,hs.below.grown hg hs.below.size (fun k e=>Nat.le_trans hB (hr k e).1),Nat.le_trans hs.size hg.size⟩
theorem gatherM_round{w W W2:World}{g B0 B R:Nat}{s t:TypeId}{pre:List UInt8}{x:UInt8}{o:Obj}{u v':Value}{a:Act}(Kp:World→World→Prop)(p:Nat→Prop)(hKp : ∀A B:World,KeepC p A B→A.heap.size≤B.heap.size→Kp A B)
  (hg1:w.heap.size≤g) (hgB:g<B) (hB0:w.heap.size≤B0) (hne:B0≠g) (hB1:B≤W.heap.size) (hp : ∀j,p j→j<B∧j≠g∧j≠B0)
  (h1:W.heap[g]? = some (.cells #[u] s)) (ho:OwnB W B0 t u pre) (hob : ∀k,u.ownBlock=some k→k=B0∨B≤k) (hbw:Below w.heap.size w W)
  (hgr:(W.alloc o).grownBy W2 u.ownBlock) (hown:OwnB W2 B0 t v' (pre++[x])) (hv:v'.ownBlock=u.ownBlock∨v'.ownBlock=some (W.alloc o).heap.size) :
  ownPostG R Kp (GatherM w g B0 B s t) (fun _ _ _=>False) (pre++[x]) W Exit.normal a (W2.setCell ⟨g,0,none⟩ v'):=by
 have hza:(W.alloc o).heap.size=W.heap.size+1:=by simp
 have hzs:(W2.setCell ⟨g,0,none⟩ v').heap.size=W2.heap.size:=by simp[World.setCell]
 have hz2:=hgr.size
 have hset : ∀k,k≠g→(W2.setCell ⟨g,0,none⟩ v').heap[k]? = W2.heap[k]?:=fun k hk=>Below.heap_setCell _ _ _ _ (by simpa using hk)
 have hk2 : ∀k,k<W.heap.size→u.ownBlock≠some k→W2.heap[k]? = W.heap[k]?:=fun k hk hn=>(hgr.block k (by omega) (fun e=>hn e.symm)).trans (Below.heap_alloc _ _ _ hk)
 have hug:u.ownBlock≠some g:=fun e=>by have:=hob g e;omega
 have hc2:W2.heap[g]? = some (.cells #[u] s):=(hk2 g (by omega) hug).trans h1
 have hvg : ∀k,v'.ownBlock=some k→k=B0∨B≤k:=fun k e=>by
  rcases hv with h | h
  ·exact hob k (h ▸ e)
  ·rw[h] at e
   cases e
   omega
 have hbA:Below w.heap.size w (W.alloc o):=hbw.alloc hbw.size o
 have hb2:Below w.heap.size w W2:=hbA.grown hgr hbA.size fun k e=>by have:=hob k e;omega
 refine⟨⟨by omega,fun k o2 _ hk ho2=>?_⟩,hKp _ _ (fun j o2 hpj hj _=>?_) (by omega),⟨⟨v',?_,?_,hvg⟩,?_,by omega⟩⟩
 ·have hkl:=(Array.getElem?_eq_some_iff.1 hk).1
  have n1:k≠g:=fun e=>by
   subst e
   rw[h1] at hk
   cases hk
   cases ho2
  have n2:u.ownBlock≠some k:=fun e=>by
   obtain⟨o1,ho1,hc1⟩:=ho.iscells e
   have:some o2=some o1:=hk.symm.trans ho1
   cases this
   rw[hc1] at ho2;cases ho2
  rw[hset k n1,hk2 k hkl n2]
  exact hk
 ·have hj2:=hp j hpj
  rw[hset j hj2.2.1,hk2 j (by omega) (fun e=>by have:=hob j e;omega)];exact hj
 ·exact(Go.heap_setCell_same W2 g 0 _ _ _ hc2).trans rfl
 ·exact hown.sameBlock fun k hk=>hset k (by have:=hvg k hk;omega)
 ·exact hb2.setCell (p:=⟨g,0,none⟩) hg1 _
theorem bs_other{W W':World}{row:Option Nat}{B n:Nat}{A:Option Addr}{xs:List UInt8}(hg:W.grownBy W' row)(hr : ∀r,row=some r→∃o:Obj,W.heap[r]? = some o∧o.isCells=false)(h:Bs W B A n xs):Bs W' B A n xs:=
 ⟨h.1,fun hn=>by
  obtain⟨b,o,e,hb,hc⟩:=h.2 hn
  exact⟨b,o,e,hb,fun j hj=>cell_kept (hc j hj) hg hr⟩⟩
theorem deferred_other{W:World}{D:Nat}(h:W.heap[D]? = some (.deferred (some []))) : ∀r,some D=some r→∃o:Obj,W.heap[r]? = some o∧o.isCells=false:=fun r e=>by cases e;exact⟨_,h,rfl⟩
theorem handS_putD{W:World}{B D n c:Nat}{A:Option Addr}{xs:List UInt8}(h:HandS W B A n c xs)(hD:W.heap[D]? = some (.deferred (some []))):HandS (W.putObj D (.deferred none)) B A n c xs:=
 ⟨(bs_other (grownBy_putObj' W D _) (deferred_other hD) h.1).more (grownBy_putObj' W D _).size,h.2⟩
end Go.Proofs.YtahiajeggbpogaaGreatDoor
namespace Go.Proofs.YtahiajeggbpogaaGreatDoor
open Go.RowKit
abbrev Fd:=ByteArray×ByteArray
def fd0:Fd:=(⟨#[]⟩,⟨#[]⟩)
def fdc(x:Fd):List Value:=[.string x.1,.string x.2]
def fdv(x:Fd):Value:=.agg #[.string x.1,.string x.2]
def Fs(w:World)(B:Nat)(A:Option Addr)(n:Nat)(xs:List Fd):Prop:=
 xs.length=n∧(0<n→∃b o,A=some ⟨b,o,none⟩∧b<B∧∀j,j<n→w.cell? ⟨b,o+j*2,none⟩=some (.string (xs[j]?.getD fd0).1)∧w.cell? ⟨b,o+(j*2+1),none⟩=some (.string (xs[j]?.getD fd0).2))
section
variable {w w':World}{B B' n:Nat}{A:Option Addr}{xs:List Fd}
theorem Fs.none_:Fs w B A 0 []:=⟨rfl,fun h=>absurd h (by omega)⟩
theorem Fs.keep(h:Fs w B A n xs)(hk : ∀p:Addr,p.block<B→w'.cell? p=w.cell? p):Fs w' B A n xs:=
 ⟨h.1,fun hn=>by
  obtain⟨b,o,e,hb,hc⟩:=h.2 hn
  exact⟨b,o,e,hb,fun j hj=>⟨(hk _ hb).trans (hc j hj).1,(hk _ hb).trans (hc j hj).2⟩⟩⟩
theorem Fs.more(h:Fs w B A n xs)(hB:B≤B'):Fs w B' A n xs:=
 ⟨h.1,fun hn=>by
  obtain⟨b,o,e,hb,hc⟩:=h.2 hn
  exact⟨b,o,e,by omega,hc⟩⟩
theorem Fs.below(h:Fs w B A n xs)(hb:Below B w w'):Fs w' B A n xs:=h.keep fun _ hp=>hb.cell hp
theorem Fs.alloc(h:Fs w B A n xs)(hB:B≤w.heap.size)(o:Obj):Fs (w.alloc o) B A n xs:=h.keep fun p hp=>World.cell?_alloc_lt w o p (by omega)
theorem Fs.drew(h:Fs w B A n xs):Fs w.drew B A n xs:=h
theorem Fs.setCell(h:Fs w B A n xs){p:Addr}(hB:B≤p.block)(u:Value):Fs (w.setCell p u) B A n xs:=
 h.keep fun q hq=>World.cell?_setCell_other w p q u (fun e=>by subst e;omega)
theorem Fs.on(h:Fs w w.heap.size A n xs)(hb:Below w.heap.size w w'):Fs w' w'.heap.size A n xs:=(h.below hb).more hb.size
theorem fs_cell(h:Fs w B A n xs)(hn:0<n) :
  ∃b o,A=some ⟨b,o,none⟩∧b<B∧∀j,j<n→∃x,xs[j]? = some x∧w.cell? ⟨b,o+j*2,none⟩=some (.string x.1)∧w.cell? ⟨b,o+(j*2+1),none⟩=some (.string x.2):=by
 obtain⟨b,o,e,hb,hc⟩:=h.2 hn
 refine⟨b,o,e,hb,fun j hj=>?_⟩
 have hl:j<xs.length:=by have:=h.1;omega
 have:=hc j hj
 rw[List.getElem?_eq_getElem hl,Option.getD_some] at this
 exact⟨xs[j],List.getElem?_eq_getElem hl,this⟩
end
theorem fcs_at : ∀(xs:List Fd) (j:Nat) (x:Fd),xs[j]? = some x→(xs.flatMap fdc)[j*2]? = some (.string x.1)∧(xs.flatMap fdc)[j*2+1]? = some (.string x.2)
 | [],_,_,h=>by simp at h
 | y::xs,0,x,h=>by
  simp at h
  subst h
  simp[fdc]
 | y::xs,j+1,x,h=>by
  have h2:=fcs_at xs j x (by simpa using h)
  rw[List.flatMap_cons]
  have e1:(j+1)*2=j*2+2:=by omega
  rw[e1,show j*2+2+1=(j*2+1)+2 from by omega]
  constructor
  ·rw[List.getElem?_append_right (by simp[fdc])]
   simpa [fdc] using h2.1
  ·rw[List.getElem?_append_right (by simp[fdc])]
   simpa [fdc] using h2.2
theorem fcs_len(xs:List Fd):(xs.flatMap fdc).length=xs.length*2:=by
 induction xs with
 | nil=>rfl
 | cons y xs ih=>rw[List.flatMap_cons,List.length_append,ih,List.length_cons];simp[fdc];omega
theorem fcs_one(xs:List Fd) : ∀u∈xs.flatMap fdc,u.oneCell'=true:=by
 intro u hu
 obtain⟨x,_,hx⟩:=List.mem_flatMap.1 hu
 simp[fdc] at hx
 rcases hx with rfl | rfl<;>rfl
def OwnF(w:World)(B:Nat)(t:TypeId)(v:Value)(xs:List Fd):Prop:=w.ownsRow B t 2 v xs.length (xs.flatMap fdc)
section
variable {w w':World}{B B':Nat}{t:TypeId}{v:Value}{xs:List Fd}
theorem OwnF.nil_(w:World)(B:Nat)(t:TypeId):OwnF w B t (.slice none 0 0) []:=World.ownsRow_nil w B t 2
theorem OwnF.kept(h:OwnF w B t v xs)(hb:Below w.heap.size w w'):OwnF w' B t v xs:=
 World.ownsRow.kept h (row:=none) ⟨hb.os,hb.tape,hb.output,hb.size,fun k hk _=>hb.block k hk⟩ (by cases h':v.ownBlock<;>simp)
theorem OwnF.less(h:OwnF w B t v xs)(hB:B'≤B):OwnF w B' t v xs:=by
 refine⟨h.1,?_⟩
 rcases h.2 with h2 | ⟨g,cap,cur,e,hg,rest⟩
 ·exact .inl h2
 ·exact .inr ⟨g,cap,cur,e,by omega,rest⟩
theorem OwnF.alloc(h:OwnF w B t v xs)(o:Obj):OwnF (w.alloc o) B t v xs:=h.kept ((Below.refl _ w).alloc (Nat.le_refl _) o)
theorem OwnF.drew(h:OwnF w B t v xs):OwnF w.drew B t v xs:=h
theorem OwnF.grown{row:Option Nat}(h:OwnF w B t v xs)(hg:w.grownBy w' row)(hne:v.ownBlock=none∨v.ownBlock≠row):OwnF w' B t v xs:=World.ownsRow.kept h hg hne
theorem OwnF.form(h:OwnF w B t v xs) :
  ∃A c,v = .slice A xs.length c∧xs.length≤c∧(A=none→c=0)∧(∀a,A=some a→∃g,a=⟨g,0,none⟩∧B≤g∧g<w.heap.size)∧Fs w w.heap.size A xs.length xs:=by
 rcases h.2 with ⟨rfl,h0⟩ | ⟨g,cap,cur,rfl,hBg,hg,hle,hmax,hs,htake⟩
 ·have:xs=[]:=List.eq_nil_of_length_eq_zero h0
  subst this
  exact⟨none,0,rfl,Nat.le_refl _,fun _=>rfl,fun a h=>(by cases h),Fs.none_⟩
 ·have hlt:g<w.heap.size:=(Array.getElem?_eq_some_iff.1 hg).1
  have hw:w.ownsRow B t 2 (.slice (some ⟨g,0,none⟩) xs.length cap) xs.length (xs.flatMap fdc):=h
  refine⟨_,cap,rfl,hle,fun h=>(by cases h),fun a h=>⟨g,(by cases h;rfl),hBg,hlt⟩,rfl,fun hn=>⟨g,0,rfl,hlt,fun j hj=>?_⟩⟩
  have hp:=fcs_at xs j xs[j] (List.getElem?_eq_getElem hj)
  have c1:=World.ownsRow.cellAt hw (j*2) (by omega)
  have c2:=World.ownsRow.cellAt hw (j*2+1) (by omega)
  rw[Nat.zero_add,Nat.zero_add,c1,c2,hp.1,hp.2,List.getElem?_eq_getElem hj]
  exact⟨rfl,rfl⟩
theorem OwnF.form2{n:Nat}(h:OwnF w B t v xs)(hl:xs.length=n) : ∃A c,v = .slice A n c∧n≤c∧(A=none→c=0)∧Fs w w.heap.size A n xs:=by
 subst hl
 obtain⟨A,c,e,h1,h2,_,h3⟩:=h.form
 exact⟨A,c,e,h1,h2,h3⟩
theorem OwnF.lit(w:World)(t:TypeId)(B:Nat)(hB:B≤w.heap.size)(g:Nat)(hg:w.heap.size=g):OwnF (w.alloc (.cells #[] t)) B t (.slice (some ⟨g,0,none⟩) 0 0) []:=by
 subst hg
 exact⟨by simp,.inr ⟨w.heap.size,0,#[],rfl,hB,World.alloc_heap_new w _,Nat.le_refl _,by simp,rfl,rfl⟩⟩
end
theorem fs_lit(w:World)(t:TypeId)(xs:List Fd)(cs:Array Value)(g:Nat)(hg:w.heap.size=g)(h:(xs.flatMap fdc).toArray=cs):Fs (w.alloc (.cells cs t)) (g+1) (some ⟨g,0,none⟩) xs.length xs:=by
 subst h
 subst hg
 refine⟨rfl,fun _=>⟨w.heap.size,0,rfl,by omega,fun j hj=>?_⟩⟩
 have hp:=fcs_at xs j xs[j] (List.getElem?_eq_getElem hj)
 have hh:=World.alloc_heap_new w (.cells (xs.flatMap fdc).toArray t)
 have c1:=cell_of_row (w.alloc (.cells (xs.flatMap fdc).toArray t)) w.heap.size (j*2) _ t (0,0) hh
 have c2:=cell_of_row (w.alloc (.cells (xs.flatMap fdc).toArray t)) w.heap.size (j*2+1) _ t (0,0) hh
 rw[Nat.zero_add,Nat.zero_add,c1,c2]
 simp only[List.getElem?_toArray]
 rw[hp.1,hp.2,List.getElem?_eq_getElem hj]
 exact⟨rfl,rfl⟩
theorem Fs.cells{w:World}{B n:Nat}{a:Addr}{xs:List Fd}(h:Fs w B (some a) n xs)(hn:0<n) : ∀j u,(xs.flatMap fdc)[j]? = some u→w.cell? (a.add j)=some u:=by
 intro j u hu
 obtain⟨b,o,e,_,hc⟩:=h.2 hn
 cases e
 have hj:j<xs.length*2:=by
  have:=(List.getElem?_eq_some_iff.1 hu).1
  rwa [fcs_len] at this
 have hl:=h.1
 have hj2:j / 2<xs.length:=by omega
 have hp:=fcs_at xs (j / 2) xs[j / 2] (List.getElem?_eq_getElem hj2)
 obtain⟨c1,c2⟩:=hc (j / 2) (by omega)
 rw[List.getElem?_eq_getElem hj2,Option.getD_some] at c1 c2
 rw[Addr.add_lit]
 rcases Nat.mod_two_eq_zero_or_one j with h0 | h0
 ·have e:j / 2*2=j:=by omega
  rw[e] at c1 hp
  rw[hp.1] at hu
  cases hu
  exact c1
 ·have e:j / 2*2+1=j:=by omega
  rw[e] at c2 hp
  rw[hp.2] at hu
  cases hu
  exact c2
theorem run_append_flds{P:Program}(w:World)(base:Nat)(t ty e:TypeId)(i:TypeInfo)(ht:P.underlying t=some (.slice e))(hi:P.info? e=some i)(hz:i.zero=some (.agg #[.string ⟨#[]⟩,.string ⟨#[]⟩]))(hsize:i.size=2)(hby:i.bytes=32)
  (v:Value) (ys:List Fd) (hown:OwnF w base e v ys) (B:Nat) (A:Option Addr) (m c:Nat) (xs:List Fd) (hr:Fs w B A m xs) (hnone:A=none→c=0) (hlen:ys.length+m≤1000000) (hbase:base≤w.heap.size) :
  ∃v' w',(Builtin.append_ #[t,t] ty #[v,.slice A m c]).run P w = .ok v' w'∧OwnF w' base e v' (ys++xs)∧w.grownBy w' v.ownBlock∧(v'.ownBlock=v.ownBlock∨v'.ownBlock=some w.heap.size):=by
 have hrow : ∀(v':Value) (w':World),w'.ownsRow base e 2 v' (ys.length+m) (ys.flatMap fdc++xs.flatMap fdc)→OwnF w' base e v' (ys++xs):=by
  intro v' w' h
  unfold OwnF
  rw[List.flatMap_append,List.length_append,hr.1]
  exact h
 rcases A with _ | ad
 ·obtain rfl:=hnone rfl
  have hm:m=0:=by
   rcases Nat.eq_zero_or_pos m with h0 | h0
   ·exact h0
   ·obtain⟨b,o',h1,_⟩:=hr.2 h0
    cases h1
  subst hm
  have hn:xs=[]:=List.eq_nil_of_length_eq_zero hr.1
  subst hn
  exact⟨v,w,run_append_owned_none (P:=P) (w:=w) base t ty e i 2 ht hi v ys.length _ hown,by simpa using hown,World.grownBy.refl _ _,.inl rfl⟩
 ·have hcells : ∀j u,(xs.flatMap fdc)[j]? = some u→w.cell? (ad.add j)=some u:=by
   rcases Nat.eq_zero_or_pos m with h0 | h0
   ·subst h0
    have hn:xs=[]:=List.eq_nil_of_length_eq_zero hr.1
    subst hn
    intro j u hu
    simp at hu
   ·exact hr.cells h0
  obtain⟨v',w',hrun,h2,h3,h4,h5⟩:=run_append_own_at (P:=P) w base t ty e i (.agg #[.string ⟨#[]⟩,.string ⟨#[]⟩]) 2 32 ht hi hz hsize hby rfl (by decide) v ys.length (ys.flatMap fdc) hown ad m c (xs.flatMap fdc) (by rw[fcs_len,hr.1]) hcells (fcs_one xs) (by unfold maxLen;omega) (by omega) hbase
  exact⟨v',w',hrun,hrow v' w' h2,h3,h5⟩
section
variable {P:Program}(w:World){ops:Array Oper}{rest:List Oper}{o:Oper}{a:Act}{K:Act→World→Prop}{Q:Exit→Act→World→Prop}{E:Prop}(hgd:o.guard=none)(s x:Operand)(t:TypeId)
  (ho:o.op = .call { callee:=.builtin .append,args:=#[s,x],argTypes:=#[t,t] })
  (base:Nat) (e:TypeId) (i:TypeInfo) (ht:P.underlying t=some (.slice e)) (hi:P.info? e=some i) (hz:i.zero=some (.agg #[.string ⟨#[]⟩,.string ⟨#[]⟩])) (hsize:i.size=2) (hby:i.bytes=32)
  (v:Value) (ys:List Fd) (hs:a.eval s=v) (hown:OwnF w base e v ys)
  (B:Nat) (A:Option Addr) (m c:Nat) (xs:List Fd) (hx:a.eval x = .slice A m c) (hr:Fs w B A m xs) (hnone:A=none→c=0)
  (hlen:ys.length+m≤1000000) (hbase:base≤w.heap.size)
include ho ht hi hz hsize hby hs hown hx hr hnone hlen hbase
theorem wp_append_flds
  (h : ∀v' w',OwnF w' base e v' (ys++xs)→Below base w w'→w.grownBy w' v.ownBlock→(v'.ownBlock=v.ownBlock∨v'.ownBlock=some w.heap.size)→K (a.put o.dst v') w'):Oper.wp P o a w K Q:=by
 obtain⟨v',w',hr,h2,h3,h5⟩:=run_append_flds (P:=P) w base t o.type e i ht hi hz hsize hby v ys hown B A m c xs hr hnone hlen hbase
 unfold Oper.wp
 simp[execOp,ho,resolve,invoke,builtin,hs,hx,hr,Result.andThen]
 exact h v' w' h2 ((Below.refl base w).grown h3 hbase (fun k hk=>(World.ownsRow.lt hown k hk).1)) h3 h5
include hgd
theorem wpList_append_flds
  (h : ∀v' w',OwnF w' base e v' (ys++xs)→Below base w w'→w.grownBy w' v.ownBlock→(v'.ownBlock=v.ownBlock∨v'.ownBlock=some w.heap.size)→wpList P ops Q rest (a.put o.dst v') w'):wpList P ops Q (o::rest) a w:=
 wpList_plain hgd fun _ hK=>wp_append_flds w s x t ho base e i ht hi hz hsize hby v ys hs hown B A m c xs hx hr hnone hlen hbase fun v' w' h1 h2 h3 h4=>hK _ _ (h v' w' h1 h2 h3 h4)
theorem step_append_flds
  (h : ∀v' w',OwnF w' base e v' (ys++xs)→Below base w w'→w.grownBy w' v.ownBlock→(v'.ownBlock=v.ownBlock∨v'.ownBlock=some w.heap.size)→K (a.put o.dst v') w'):if Region.wanted o (yielded ops a.tmps)=true then Oper.wp P o a w K Q else E:=by
 have hw:Region.wanted o (yielded ops a.tmps)=true:=by simp[Region.wanted,hgd]
 rw[if_pos hw]
 exact wp_append_flds w s x t ho base e i ht hi hz hsize hby v ys hs hown B A m c xs hx hr hnone hlen hbase h
end
def fF(A:Option Addr)(n:Nat)(xs:List Fd):Fact where
 on k:=0<n∧∃o,A=some ⟨k,o,none⟩
 is w:=Fs w w.heap.size A n xs
 dep w w' h hz hk:=⟨h.1,fun hn=>by
  obtain⟨b,o,e,hb,hc⟩:=h.2 hn
  exact⟨b,o,e,by omega,fun j hj=>⟨(World.cell?_of_block (a:=⟨b,o+j*2,none⟩) (hk b ⟨hn,o,e⟩)).trans (hc j hj).1,(World.cell?_of_block (a:=⟨b,o+(j*2+1),none⟩) (hk b ⟨hn,o,e⟩)).trans (hc j hj).2⟩⟩⟩
theorem fs_on{w:World}{A:Option Addr}{n:Nat}{xs:List Fd}(h:Fs w w.heap.size A n xs) : ∀k,(fF A n xs).on k→k<w.heap.size:=fun k hk=>by
 obtain⟨hn,o,e⟩:=hk
 obtain⟨b,o',e',hb,_⟩:=h.2 hn
 rw[e] at e'
 cases e'
 exact hb
theorem EnvF.fs{w:World}{fs:List Fact}{gs:List Bx}(h:EnvF w fs gs){A:Option Addr}{n:Nat}{xs:List Fd}(hm:fF A n xs∈fs):Fs w w.heap.size A n xs:=(h.f _ hm).1
theorem EnvF.addF{w:World}{fs:List Fact}(h:EnvF w fs []){A:Option Addr}{n:Nat}{xs:List Fd}(hb:Fs w w.heap.size A n xs):EnvF w (fF A n xs::fs) []:=h.add0 hb (fs_on hb)
theorem OwnF.handF{w:World}{B:Nat}{t:TypeId}{A:Option Addr}{n c:Nat}{xs:List Fd}(h:OwnF w B t (.slice A n c) xs):HandF w B (fF A n xs):=by
 obtain⟨A',c',e,h1,h2,h3,h4⟩:=h.form
 cases e
 refine⟨h4,fun k hk=>?_⟩
 obtain⟨hn,o,e⟩:=hk
 obtain⟨g,eg,hB,hg⟩:=h3 _ e
 cases eg
 exact⟨hB,hg⟩
theorem EnvF.litf{w:World}{fs:List Fact}{gs:List Bx}(h:EnvF w fs gs)(t:TypeId)(xs:List Fd)(cs:Array Value)(hx:(xs.flatMap fdc).toArray=cs)(n:Nat)(hn:xs.length=n)(g:Nat)(hg:w.heap.size=g):EnvF (w.alloc (.cells cs t)) (fF (some ⟨g,0,none⟩) n xs::fs) gs:=by
 subst hn
 refine h.hand ((Below.refl _ w).alloc (Nat.le_refl _) _) ⟨?_,fun k hk=>?_⟩
 ·have:=fs_lit w t xs cs g hg hx
  rw[←hg] at this
  show Fs (w.alloc _) (w.alloc _).heap.size _ _ _
  rw[World.size_alloc,←hg]
  exact this
 ·obtain⟨_,o,e⟩:=hk
  cases e
  simp
  omega
def IsFlds(w:World)(a:Option Addr)(len cap:Nat):Prop:=
 (a=none∧len=0∧cap=0)∨∃x,a=some x∧len≤cap∧cap≤maxLen∧∀i,i<len→∃s0 s1:ByteArray,w.cell? (x.add (i*2))=some (.string s0)∧w.cell? (x.add (i*2+1))=some (.string s1)∧s0.size≤140737488355328∧s1.size≤140737488355328
theorem rowFlds{w:World}{a:Option Addr}{len cap:Nat}(h:IsFlds w a len cap) :
  ∃xs:List Fd,Fs w w.heap.size a len xs∧(∀x∈xs,x.1.size≤140737488355328∧x.2.size≤140737488355328)∧len≤cap∧cap≤maxLen∧(a=none→cap=0):=by
 rcases h with ⟨rfl,rfl,rfl⟩ | ⟨x,rfl,hl,hm,hc⟩
 ·exact⟨[],Fs.none_,fun _ h=>(by cases h),Nat.le_refl _,Nat.zero_le _,fun _=>rfl⟩
 ·have hp : ∀i,∃p:Fd,(i<len→w.cell? (x.add (i*2))=some (.string p.1)∧w.cell? (x.add (i*2+1))=some (.string p.2))∧p.1.size≤140737488355328∧p.2.size≤140737488355328:=fun i=>by
   by_cases hi:i<len
   ·obtain⟨s0,s1,h0,h1,w0,w1⟩:=hc i hi
    exact⟨(s0,s1),fun _=>⟨h0,h1⟩,w0,w1⟩
   ·exact⟨fd0,fun h=>absurd h hi,Nat.zero_le _,Nat.zero_le _⟩
  obtain⟨f,hf⟩:=Classical.axiomOfChoice hp
  refine⟨(List.range len).map f,⟨by simp,fun hn=>?_⟩,fun y hy=>?_,hl,hm,fun h=>(by cases h)⟩
  ·have h0:=((hf 0).1 hn).1
   obtain⟨b,o,spot⟩:=x
   have hspot:spot=none:=by simpa [Addr.add] using World.cell?_spot h0
   subst hspot
   refine⟨b,o,rfl,?_,fun j hj=>?_⟩
   ·have:=cell_lt h0
    simpa [Addr.add] using this
   ·have h1:=(hf j).1 hj
    rw[Addr.add_lit,Addr.add_lit] at h1
    have e:((List.range len).map f)[j]?.getD fd0=f j:=by simp[hj]
    rw[e]
    exact h1
  ·obtain⟨i,_,rfl⟩:=List.mem_map.1 hy
   exact(hf i).2
end Go.Proofs.YtahiajeggbpogaaGreatDoor
namespace Go.Proofs.YtahiajeggbpogaaGreatDoor
open Go.RowKit
section
variable {w w':World}{B B':Nat}{t:TypeId}{v:Value}{xs:List Fd}
theorem OwnF.above(h:OwnF w B t v xs)(hk : ∀k,B≤k→w'.heap[k]? = w.heap[k]?):OwnF w' B t v xs:=by
 refine⟨h.1,?_⟩
 rcases h.2 with h2 | ⟨g,cap,cur,e,hg,hh,rest⟩
 ·exact .inl h2
 ·exact .inr ⟨g,cap,cur,e,hg,(hk g hg).trans hh,rest⟩
theorem OwnF.block(h:OwnF w B t v xs){k:Nat}(hk:v.ownBlock=some k):B≤k∧k<w.heap.size:=World.ownsRow.lt h k hk
theorem OwnF.iscells(h:OwnF w B t v xs){k:Nat}(hk:v.ownBlock=some k) : ∃o:Obj,w.heap[k]? = some o∧o.isCells=true:=by
 rcases h.2 with ⟨rfl,_⟩ | ⟨g,cap,cur,rfl,_,hh,_⟩
 ·cases hk
 ·cases hk
  exact⟨_,hh,rfl⟩
theorem OwnF.beside{row:Option Nat}(h:OwnF w B t v xs)(hg:w.grownBy w' row)(hne : ∀k,v.ownBlock=some k→row≠some k):OwnF w' B t v xs:=by
 refine⟨h.1,?_⟩
 rcases h.2 with h2 | ⟨g,cap,cur,e,hB,hh,rest⟩
 ·exact .inl h2
 ·refine .inr ⟨g,cap,cur,e,hB,?_,rest⟩
  rw[hg.block g (Array.getElem?_eq_some_iff.1 hh).1 (fun e2=>hne g (by rw[e];rfl) e2.symm)]
  exact hh
theorem OwnF.other{row:Option Nat}(h:OwnF w B t v xs)(hg:w.grownBy w' row)(hr : ∀k,row=some k→∃o:Obj,w.heap[k]? = some o∧o.isCells=false):OwnF w' B t v xs:=
 h.beside hg fun k hk e=>by
  obtain⟨o,ho,hc⟩:=hr k e
  obtain⟨o2,ho2,hc2⟩:=h.iscells hk
  rw[ho] at ho2
  cases ho2
  rw[hc] at hc2
  cases hc2
end
theorem KeepC.fs{p:Nat→Prop}{W W':World}{n:Nat}{B:Nat}{A:Option Addr}{xs:List Fd}(h:KeepC p W W')(hb:Fs W B A n xs)(hp:0<n→∀b o,A=some ⟨b,o,none⟩→p b):Fs W' B A n xs:=
 ⟨hb.1,fun hn=>by
  obtain⟨b,o,e,hB,hc⟩:=hb.2 hn
  exact⟨b,o,e,hB,fun j hj=>⟨h.cell (hp hn b o e) (hc j hj).1,h.cell (hp hn b o e) (hc j hj).2⟩⟩⟩
structure GatherF (w:World) (g B:Nat) (t:TypeId) (pre:List Fd) (W:World):Prop where
 row : ∃v,W.cell? ⟨g,0,none⟩=some v∧W.frozen? ⟨g,0,none⟩=false∧OwnF W B t v pre
 below:Below w.heap.size w W
 size:B≤W.heap.size
def oF(B:Nat)(t:TypeId)(v:Value)(xs:List Fd):Fact where
 on k:=v.ownBlock=some k
 is w:=OwnF w B t v xs
 dep w w' h hz hk:=by
  refine⟨h.1,?_⟩
  rcases h.2 with h2 | ⟨g,cap,cur,e,hg,hh,rest⟩
  ·exact .inl h2
  ·exact .inr ⟨g,cap,cur,e,hg,(hk g (by rw[e];rfl)).trans hh,rest⟩
theorem EnvF.own{w:World}{fs:List Fact}{gs:List Bx}(h:EnvF w fs gs){B:Nat}{t:TypeId}{v:Value}{xs:List Fd}(hm:oF B t v xs∈fs):OwnF w B t v xs:=(h.f _ hm).1
theorem EnvF.handO{w w':World}{fs:List Fact}{gs:List Bx}(h:EnvF w fs gs)(hb:Below w.heap.size w w'){B:Nat}{t:TypeId}{A:Option Addr}{n c:Nat}{xs:List Fd}(ho:OwnF w' w.heap.size t (.slice A n c) xs)(hB:B≤w.heap.size) :
  EnvF w' (oF B t (.slice A n c) xs::fF A n xs::fs) gs:=by
 have h1:=h.hand hb ho.handF
 refine⟨fun y hy=>?_,h1.g,h1.d⟩
 rcases List.mem_cons.1 hy with rfl | hy
 ·exact⟨ho.less hB,fun k hk=>⟨(ho.block hk).2,fun z hz=>by have:=h.lt hz;have:=(ho.block hk).1;omega⟩⟩
 ·exact h1.f y hy
theorem OwnF.litn(w:World)(t:TypeId)(B:Nat)(hB:B≤w.heap.size)(g:Nat)(hg:w.heap.size=g)(xs:List Fd)(cs:Array Value)(h:(xs.flatMap fdc).toArray=cs)(n:Nat)(hn:xs.length=n)(hm:n≤1000000):OwnF (w.alloc (.cells cs t)) B t (.slice (some ⟨g,0,none⟩) n n) xs:=by
 subst hg h hn
 refine⟨fcs_len xs,.inr ⟨w.heap.size,xs.length,_,rfl,hB,World.alloc_heap_new w _,Nat.le_refl _,by unfold maxLen;omega,by rw[List.size_toArray,fcs_len],?_⟩⟩
 exact List.take_of_length_le (Nat.le_of_eq (fcs_len xs))
end Go.Proofs.YtahiajeggbpogaaGreatDoor
namespace Go.Proofs.YtahiajeggbpogaaGreatDoor
open Go.RowKit
set_option linter.unusedVariables false
set_option linter.unusedSimpArgs false
namespace GD
def opsOf(id:Nat):Code→List Oper
 | .region i ops _=>if i=id then ops.toList else []
 | .seq a b=>opsOf id a++opsOf id b
 | .cond _ a b=>opsOf id a++opsOf id b
 | .block _ b=>opsOf id b
 | .loop b=>opsOf id b
 | .scope b=>opsOf id b
 | _=>[]
section
variable {P:Program}{l:List Oper}{Q:Exit→Act→World→Prop}{md:Region.Mode}{S:World→Prop}
theorem getOf{i:Nat}{oi:Oper}{r:List Oper}(h:List.drop i l=oi::r):l.toArray[i]? = some oi:=by
 have h1:(List.drop i l)[0]? = some oi:=by rw[h];rfl
 simpa using h1
theorem takeD{i:Nat}{oi:Oper}{r:List Oper}{v:Value}{fuel:Nat}{listed:Array Bool}{a:Act}{w:World}(hi:List.drop i l=oi::r)
  (hs:Region.noSelect l.toArray=true) (hf:Region.free md l.toArray listed i=true) (hr:(Region.ready md l.toArray listed).contains i=true)
  (hQ : ∀c a w,Q (.panic c) (a.put oi.dst v) w→Q (.panic c) a w) (hy:YieldsIf P l.toArray S oi v a) (hS:S w)
  (h:wpAnyH P md l.toArray Q S fuel (listed.setIfInBounds i true) (a.put oi.dst v) w):wpAnyH P md l.toArray Q S (fuel+1) listed a w:=
 wpAnyH_take (getOf hi) hs hf hr hQ hy hS h
theorem readyD{i:Nat}{o:Oper}{r:List Oper}{fuel:Nat}{listed:Array Bool}{a:Act}{w:World}(hi:List.drop i l=o::r)
  (hr:Region.ready md l.toArray listed=[i])
  (h : ∀K':Act→World→Prop,Shut (∀a w,S w→(S w→wpAnyH P md l.toArray Q S fuel (listed.setIfInBounds i true) a w)→K' a w)→if Region.wanted o (yielded l.toArray a.tmps)=true then Oper.wp P o a w K' Q else K' (a.put o.dst undef) w) :
  wpAnyH P md l.toArray Q S (fuel+1) listed a w:=
 wpAnyH_ready hr (by simp) (AllReadyH.cons (getOf hi) h AllReadyH.nil)
end
end GD
end Go.Proofs.YtahiajeggbpogaaGreatDoor
namespace Go.Proofs.YtahiajeggbpogaaGreatDoor
open Go.RowKit
section
variable {P:Program}{ops:Array Oper}{C:World→Prop}{Q:Act→Prop}{a:Act}{o:Oper}{rest:List Oper}
theorem q_start{id:Nat}{Q:Exit→Act→World→Prop}{w:World}{l:List Oper}(C:World→Prop)(hm:P.follows .mixedOrders=true)(hB:Region.lexB .any l.toArray=true)(hC:C w.drew)
  (h:wpQuiet P l.toArray C (fun a'=>∀w',C w'→Q .normal a' w') l a):(Code.region id l.toArray true).wp P Q a w:=
 wp_region_quiet hm hB hC (by simpa using h)
theorem q_skip(hw:Region.wanted o (yielded ops a.tmps)=false)(h:wpQuiet P ops C Q rest (a.put o.dst undef)):wpQuiet P ops C Q (o::rest) a:=by
 unfold wpQuiet
 rw[hw]
 exact h
theorem q_op(hw:Region.wanted o (yielded ops a.tmps)=true)(v:Value)(hr : ∀w,C w→o.quietAt P a C w v)(h:wpQuiet P ops C Q rest (a.put o.dst v)):wpQuiet P ops C Q (o::rest) a:=by
 unfold wpQuiet
 rw[hw]
 exact⟨v,hr,h⟩
theorem q_val(hw:Region.wanted o (yielded ops a.tmps)=true){v:Value}(hr : ∀w,(execOp a.eval o).run P w = .ok (.value v) w)(h:wpQuiet P ops C Q rest (a.put o.dst v)):wpQuiet P ops C Q (o::rest) a:=
 q_op hw v (fun w _=>by unfold Oper.quietAt;rw[hr w];exact⟨rfl,rfl⟩) h
theorem q_move(hw:Region.wanted o (yielded ops a.tmps)=true)(x:Operand)(ho:o.op = .move x)(h:wpQuiet P ops C Q rest (a.put o.dst (a.eval x))):wpQuiet P ops C Q (o::rest) a:=
 q_op hw _ (fun w _=>by unfold Oper.quietAt;rw[BigFrame.run_move x ho];exact⟨rfl,rfl⟩) h
theorem q_assign(hw:Region.wanted o (yielded ops a.tmps)=true)(x:Operand)(ho:o.op = .assign x)(h:wpQuiet P ops C Q rest (a.put o.dst (a.eval x))):wpQuiet P ops C Q (o::rest) a:=
 q_op hw _ (fun w _=>by unfold Oper.quietAt;rw[BigFrame.run_assign x ho];exact⟨rfl,rfl⟩) h
theorem q_get(hw:Region.wanted o (yielded ops a.tmps)=true)(ty:TypeId)(x:Operand)(ho:o.op = .load ty x)(g k:Nat)(hx:a.eval x = .pointer (some ⟨g,k,none⟩))(t:TypeId)(cs:Array Value)(v:Value)(d:TypeDesc)
  (hg : ∀w,C w→w.heap[g]? = some (.cells cs t)) (hv:cs[k]? = some v) (hu:P.underlying ty=some d) (hd:(match d with | .struct _ | .array _ _=>true | _=>false)=false) (h:wpQuiet P ops C Q rest (a.put o.dst v)):wpQuiet P ops C Q (o::rest) a:=
 q_op hw v (fun w hC=>by
  have hr:(execOp a.eval o).run P w = .ok (.value v) w:=by
   unfold execOp
   simp only[ho,hx,Instr.loadAt,Instr.sureAddr,Sem.run_bind,Sem.run_pure,Result.andThen_ok,run_get w g k ty t cs v d (hg w hC) hv hu hd]
  unfold Oper.quietAt
  rw[hr]
  exact⟨rfl,rfl⟩) h
theorem q_row(hw:Region.wanted o (yielded ops a.tmps)=true)(ty:TypeId)(x:Operand)(ho:o.op = .load ty x)(g:Nat)(hx:a.eval x = .pointer (some ⟨g,0,none⟩))(t:TypeId)(cs:Array Value)(d:TypeDesc)
  (hg : ∀w,C w→w.heap[g]? = some (.cells cs t)) (hu:P.underlying ty=some d) (hd:(match d with | .struct _ | .array _ _=>true | _=>false)=true) (hi:(P.info? ty).map (·.size)=some cs.size) (h:wpQuiet P ops C Q rest (a.put o.dst (.agg cs))):wpQuiet P ops C Q (o::rest) a:=
 q_op hw (.agg cs) (fun w hC=>by
  have hr:(execOp a.eval o).run P w = .ok (.value (.agg cs)) w:=by
   unfold execOp
   simp only[ho,hx,Instr.loadAt,Instr.sureAddr,Sem.run_bind,Sem.run_pure,Result.andThen_ok,run_loadVar_row w g t ty cs (0,0) d (hg w hC) hu hd hi]
  unfold Oper.quietAt
  rw[hr]
  exact⟨rfl,rfl⟩) h
theorem q_call(hw:Region.wanted o (yielded ops a.tmps)=true)(f:FuncId)(xs:Array Value)(v:Value)(hr : ∀w,(execOp a.eval o).run P w = .ok (.enter f xs) w)
  (hc : ∀w,C w→Calls P f xs w fun e w'=>e = .returned v∧C w') (h:wpQuiet P ops C Q rest (a.put o.dst v)):wpQuiet P ops C Q (o::rest) a:=
 q_op hw v (fun w hC=>by
  unfold Oper.quietAt
  rw[hr w]
  exact⟨rfl,hc w hC⟩) h
end
end Go.Proofs.YtahiajeggbpogaaGreatDoor
namespace Go.Proofs.YtahiajeggbpogaaGreatDoor
open Go.ChangeShapes Go.WideShapes Go.ChangeAt Go.RowKit
variable {H:Type}{enc:TypeId×Value→H}{P:Program}{w:World}{base:Nat}{spare:Nat→Bool}{held:Bool}
end Go.Proofs.YtahiajeggbpogaaGreatDoor
namespace Go.Proofs.YtahiajeggbpogaaGreatDoor
open Go.ChangeShapes Go.WideShapes Go.ChangeAt Go.RowKit
set_option linter.unusedVariables false
set_option linter.unusedSimpArgs false
section
variable {H:Type}{enc:TypeId×Value→H}{P:Program}{w:World}{base:Nat}{spare:Nat→Bool}{held:Bool}
theorem weightsAll_mem{e:TypeId} : ∀{l:List (DataW H)} {d:DataW H},d∈l→∀n∈d.weights P e,n∈DataW.weightsAll P e l
 | _::_,_,.head _,n,hn=>by
  unfold DataW.weightsAll
  exact List.mem_append_left _ hn
 | _::_,_,.tail _ h,n,hn=>by
  unfold DataW.weightsAll
  exact List.mem_append_right _ (weightsAll_mem h n hn)
theorem reach47{n:Nat}(h:n≤reachBytes):n≤140737488355328:=by
 have:=reachBytes_lt
 omega
theorem open_tableV{r:Reach}{b0:Nat}{t e:TypeId}{f0 f1 g0 g1:Field}{v:Value}{d:DataW H}{p:List MemPlace}(hs:P.underlying t=some (.struct #[f0,f1]))(hC:P.cellsOf t=2)(o0:f0.offset=0)(o1:f1.offset=1)
  (c0:P.cellsOf f0.type=1) (c1:P.cellsOf f1.type=1) (u0:P.underlying f0.type=some (.int .i64)) (u1:P.underlying f1.type=some (.slice e)) (he:P.underlying e=some (.struct #[g0,g1]))
  (ce:P.cellsOf e=2) (q0:g0.offset=0) (q1:g1.offset=1) (d0:P.cellsOf g0.type=1) (d1:P.cellsOf g1.type=1) (t0:P.underlying g0.type=some .string) (t1:P.underlying g1.type=some .string)
  (hv:Value.okWide P w r b0 t v) (h:DataW.Trod enc P w base spare held t v d p) (hz : ∀n∈d.weights P t,n≤reachBytes) :
  ∃(M:Int) (a:Option Addr) (len cap:Nat),v = .agg #[.int .i64 M,.slice a len cap]∧(Lit.int .i64 M).wf=true∧IsFlds w a len cap:=by
 obtain⟨cs,rfl,hsz⟩:=okWide_struct hs hv
 rw[hC] at hsz
 obtain⟨fuel,hf⟩:=h
 obtain⟨L,rfl⟩ : ∃L:List Value,cs=L.toArray:=⟨cs.toList,by simp⟩
 obtain⟨xs,n,_,hx,_,hlen,hff⟩:=DataW.trod_struct hs hf
 match xs,hlen,L,hsz with
 | [y0,y1],_,[v0,v1],_=>
  have g0':=hff 0 f0 rfl
  have g1':=hff 1 f1 rfl
  simp[o0,o1,c0,c1,Value.cells] at g0' g1'
  obtain⟨M,e0,r0,wM⟩:=DataW.trod_int u0 g0'
  subst r0
  simp only[List.cons.injEq,and_true] at e0
  subst e0
  simp only[Prod.mk.injEq,List.map_cons,List.map_nil] at hx
  rw[hx.1] at hz
  rcases Go.Deep.open_slice_pairs u1 he ce q0 q1 d0 d1 g1' with ⟨hcs,_⟩ | ⟨x,l,c,m,k,V0,V1,D0,D1,P0,P1,hcs,_,hl,hm,hmm,hy,hc⟩
  ·simp only[List.cons.injEq,and_true] at hcs
   exact⟨M,none,0,0,by rw[hcs],wM,.inl ⟨rfl,rfl,rfl⟩⟩
  ·simp only[List.cons.injEq,and_true] at hcs
   refine⟨M,some x,l,c,by rw[hcs],wM,.inr ⟨x,rfl,hl,hm,fun i hi=>?_⟩⟩
   obtain⟨h1,h2,p0,p1⟩:=hc i (by rw[hmm];split<;>omega)
   obtain⟨s0,e0,r0,_⟩:=DataW.trod_string t0 p0
   obtain⟨s1,e1,r1,_⟩:=DataW.trod_string t1 p1
   simp only[List.cons.injEq,and_true] at e0 e1
   rw[e0] at h1
   rw[e1] at h2
   have hin:(DataW.agg [D0 i,D1 i])∈((List.range l).map fun i=>DataW.agg [D0 i,D1 i]):=List.mem_map.2 ⟨i,List.mem_range.2 hi,rfl⟩
   have hw : ∀n∈(DataW.agg [D0 i,D1 i]).weights P e,n≤reachBytes:=fun n hn=>by
    refine hz n ?_
    have hn2:=weightsAll_mem (P:=P) hin n hn
    rw[hy]
    simp only[DataW.weights,hs,DataW.weightsEach,List.toList_toArray,List.map_cons,List.map_nil,u1]
    simp only[List.mem_append,List.mem_cons]
    exact .inr (.inl (.inr (.inl hn2)))
   rw[(Prod.mk.inj r0).1,(Prod.mk.inj r1).1] at hw
   simp[DataW.weights,he,DataW.weightsEach] at hw
   exact⟨s0,s1,h1,h2,reach47 hw.1,reach47 hw.2⟩
end
end Go.Proofs.YtahiajeggbpogaaGreatDoor
namespace Go.Proofs.YtahiajeggbpogaaGreatDoor
open Go.RowKit
section
variable {P:Program}{ops:Array Oper}{C:World→Prop}{Q:Act→Prop}{a:Act}{rest:List Oper}
theorem q_norm{l:List Value}{d:Tmp}{v:Value}{ds:List Deferred}(h:wpQuiet P ops C Q rest { tmps:=(l.set d v).toArray,defers:=ds }):wpQuiet P ops C Q rest (({ tmps:=l.toArray,defers:=ds }:Act).put (some d) v):=by
 have e:(({ tmps:=l.toArray,defers:=ds }:Act).put (some d) v)={ tmps:=(l.set d v).toArray,defers:=ds }:=by simp[Act.put]
 rw[e]
 exact h
theorem q_norm0{v:Value}(h:wpQuiet P ops C Q rest a):wpQuiet P ops C Q rest (a.put none v):=h
end
end Go.Proofs.YtahiajeggbpogaaGreatDoor
