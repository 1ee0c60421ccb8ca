import Derived.Test.YtahiajeggbpogaaGreatDoorUpG
set_option maxRecDepth 100000
set_option maxHeartbeats 4000000
namespace Go.Proofs.YtahiajeggbpogaaGreatDoor
open Go.RowKit Go.Shelf Hf Px Tx Tb Up
set_option linter.unusedVariables false
set_option linter.unusedSimpArgs false
attribute [local go_sem] Oper.semAt_some
theorem res_cell_one{P:Program}{fn:Func}{p q:Tmp}{ty tz:TypeId}(h:fn.results=#[.cell p ty,.cell q tz])(tmps:Array Value)(w:World)(g k:Nat)(t s:TypeId)(cs:Array Value)(v:Value)(d d':TypeDesc)
  (hp:tmps.getD p undef = .pointer (some ⟨g,0,none⟩)) (hg:w.heap[g]? = some (.cells cs t)) (hq:tmps.getD q undef = .pointer (some ⟨k,0,none⟩)) (hk:w.heap[k]? = some (.cells #[v] s))
  (hu:P.underlying ty=some d) (hd:(match d with | .struct _ | .array _ _=>true | _=>false)=true) (hi:(P.info? ty).map (·.size)=some cs.size)
  (hu':P.underlying tz=some d') (hd':(match d' with | .struct _ | .array _ _=>true | _=>false)=false) :
  (results fn tmps).run P w = .ok (.tuple #[.agg cs,v]) w:=by
 have hp':tmps[p]?.getD undef = .pointer (some ⟨g,0,none⟩):=by simpa using hp
 have hq':tmps[q]?.getD undef = .pointer (some ⟨k,0,none⟩):=by simpa using hq
 simp[results,h,hp',hq',asAddr,run_loadVar_row w g t ty cs _ d hg hu hd hi,run_get w k 0 tz s #[v] v d' hk rfl hu' hd']
theorem u_begun{fs:List Fact}{gs:List Bx}{i g K:Nat}{most:Int}{A:Option Addr}{n c:Nat}{LA:Option Addr}{ln lc:Nat}{s:Sta}(w:World)(hO:Opn w fs gs i g K most A n c LA ln lc s)(hK:kF K∈fs)(hne:s.ls≠[]) :
  Calls Tryz.prog 60 #[.pointer (some ⟨g,0,none⟩)] w fun e w'=>e = .returned (.tuple #[.agg #[.int .u8 ((8-kb (hd s.ls):Nat):Int),.int .u8 (((hd s.ls).toNat / 2 ^ kb (hd s.ls):Nat):Int)],.int .u8 (kk (hd s.ls):Int)])∧Below w.heap.size w w':=by
 obtain⟨M,xs,ls⟩:=s
 obtain⟨x,ys,rfl⟩ : ∃x ys,ls=x::ys:=by cases ls with
  | nil=>exact absurd rfl hne
  | cons x ys=>exact⟨x,ys,rfl⟩
 have hlen:=hO.len
 have hlc:=hO.hl
 simp only[hd,List.headD_cons] at hlen ⊢
 rw[List.length_cons] at hlen
 obtain⟨b,o,rfl,hb0,hcc⟩:=bs_cell hO.bs (by omega)
 obtain⟨x',hx',cx⟩:=hcc 0 (by omega)
 simp only[List.getElem?_cons_zero,Option.some.injEq] at hx'
 subst hx'
 rw[Nat.add_zero] at cx
 have K0:=Lib.hid (((hO.boxg 55 #[.pointer (some ⟨g,0,none⟩)] w.heap.size rfl).boxg 72 #[.int .u8 0,.int .u8 0] (w.heap.size+1) (by simp)).boxg 83 #[.int .u8 0] (w.heap.size+1+1) (by simp))
 have HKF:=Lib.hid hK
 have hcx:(((w.alloc (.cells #[.pointer (some ⟨g,0,none⟩)] 55)).alloc (.cells #[.int .u8 0,.int .u8 0] 72)).alloc (.cells #[.int .u8 0] 83)).cell? ⟨b,o,none⟩=some (.int .u8 (x.toNat:Int)):=by
  rw[World.cell?_alloc_lt _ _ _ (by simp only[World.size_alloc];omega),World.cell?_alloc_lt _ _ _ (by simp only[World.size_alloc];omega),World.cell?_alloc_lt _ _ _ hb0]
  exact cx
 have hix:(0:Int)<(ln:Int):=by omega
 have hl1:0<ln:=by omega
 clear hcc hK hO cx
 refine(callsIn_wide (n:=6)).1 (callsIn_of_wp_marks Tryz.func60 rfl trivial ?_ rfl)
 refine wpIn_wide.2 ?_
 simp only[Tryz.ntmps60,List.size_toArray,List.length_cons,List.length_nil,Nat.reduceAdd,Nat.reduceSub,Array.replicate_succ,Array.replicate_zero,List.push_toArray,List.append_toArray,List.nil_append,List.cons_append]
 go_wp2_with (first
  | (refine at_load 25 (.tmp 6) (by rfl) ?_;refine wpList_get (by rfl) 25 (.tmp 6) (by rfl) g 4 (by rfl) 64 (rdc K most M A n c (some ⟨b,o,none⟩) ln lc) (.slice (some ⟨b,o,none⟩) ln lc) _ (K0.out.row) (by rfl) Tryz.underlying25 (by rfl) ?_)
  | (go_at_call 84;(with_reducible refine(u_marks x _).mono ?_);rintro e w' ⟨rfl,rfl⟩))
 have hb1:Below w.heap.size w ((((w.alloc (.cells #[.pointer (some ⟨g,0,none⟩)] 55)).alloc (.cells #[.int .u8 0,.int .u8 0] 72)).alloc (.cells #[.int .u8 0] 83)).alloc (.cells #[.int .u8 (x.toNat:Int)] 5)):=((((Below.refl _ w).alloc (Nat.le_refl _) _).alloc (by simp) _).alloc (by simp;omega) _).alloc (by simp;omega) _
 have hE1:=EvI.start (K0.out.e.al (.cells #[.int .u8 (x.toNat:Int)] 5)) hb1
 have hz1:((((w.alloc (.cells #[.pointer (some ⟨g,0,none⟩)] 55)).alloc (.cells #[.int .u8 0,.int .u8 0] 72)).alloc (.cells #[.int .u8 0] 83)).alloc (.cells #[.int .u8 (x.toNat:Int)] 5)).heap.size=w.heap.size+4:=by simp
 have hcB:((((w.alloc (.cells #[.pointer (some ⟨g,0,none⟩)] 55)).alloc (.cells #[.int .u8 0,.int .u8 0] 72)).alloc (.cells #[.int .u8 0] 83)).alloc (.cells #[.int .u8 (x.toNat:Int)] 5)).cell? ⟨w.heap.size+1+1+1,0,none⟩=some (.int .u8 (x.toNat:Int)):=by
  refine cells1_row (w:=((((w.alloc (.cells #[.pointer (some ⟨g,0,none⟩)] 55)).alloc (.cells #[.int .u8 0,.int .u8 0] 72)).alloc (.cells #[.int .u8 0] 83)).alloc (.cells #[.int .u8 (x.toNat:Int)] 5))) (t:=5) ?_
  have h:=World.alloc_heap_new ((((w.alloc (.cells #[.pointer (some ⟨g,0,none⟩)] 55)).alloc (.cells #[.int .u8 0,.int .u8 0] 72)).alloc (.cells #[.int .u8 0] 83))) (.cells #[.int .u8 (x.toNat:Int)] 5)
  simpa only[World.size_alloc] using h
 have hrd:=K0.out.i
 have HRD:=Lib.hid hrd
 clear hcx hix hl1 hrd K0 hb0 hb1
 generalize ((((w.alloc (.cells #[.pointer (some ⟨g,0,none⟩)] 55)).alloc (.cells #[.int .u8 0,.int .u8 0] 72)).alloc (.cells #[.int .u8 0] 83)).alloc (.cells #[.int .u8 (x.toNat:Int)] 5))=Ws at *
 rw[hz1] at hE1
 have HE1:=Lib.hid hE1
 clear hE1
 refine(wpIn_wide (n:=6)).1 ?_
 refine wpIn_rangeFunc_stateX rfl (by omega) (gf:=103) (lb:=#[.pointer (some ⟨w.heap.size+1+1+1,0,none⟩)]) rfl trivial (enters_of Tryz.func103 (by kernel_rfl) rfl)
  (marks_stops 5 (by omega) (w.heap.size+1+1+1) x (fun q=>q=w.heap.size+1+1+1) Ws rfl (by omega) hcB)
  (fun h k=>Hf.KeepZ.trans h k) (fun W l o o' _ h hc _=>⟨KeepC.put W l o o' h hc,(grownBy_putObj' W l o').size⟩) (fun _=>rfl) (fun A B l o hs h hc=>hs.elim)
  (fun pre W=>∃u v,EvI w fs ((w.heap.size+1+1,#[.int .u8 0],83)::(w.heap.size+1,#[u,v],72)::(w.heap.size,#[.pointer (some ⟨g,0,none⟩)],55)::gs) (w.heap.size+4) W∧∀t,t<pre.length→lk (t+1) (x.toNat / 2 ^ (7-t))=0)
  (fun cd pre W=>cd = .exit 0∧∃j,j<4∧EvI w fs ((w.heap.size+1+1,#[.int .u8 (lk (j+1) (x.toNat / 2 ^ (7-j)):Nat)],83)::(w.heap.size+1,#[.int .u8 ((j:Int)+1),.int .u8 ((x.toNat:Int) / 2 ^ (7-j))],72)::(w.heap.size,#[.pointer (some ⟨g,0,none⟩)],55)::gs) (w.heap.size+4) W∧lk (j+1) (x.toNat / 2 ^ (7-j))≠0∧∀t,t<j→lk (t+1) (x.toNat / 2 ^ (7-t))=0)
  (fun pre A B row h hg hr=>by obtain⟨u,v,h1,h2⟩:=h;exact⟨u,v,h1.grow hg (fun r e=>by have:=(hr r e).1;omega),h2⟩)
  (fun cd pre A B row h hg hr=>by obtain⟨h0,j,hj,h1,h2⟩:=h;exact⟨h0,j,hj,h1.grow hg (fun r e=>by have:=(hr r e).1;omega),h2⟩)
  (fun pre A B h hs=>hs.elim) ⟨_,_,HE1.out,fun t ht=>by simp at ht⟩
  (fun pre j a' W=>a'={ tmps:=#[.pointer (some ⟨g,0,none⟩),.pointer (some ⟨w.heap.size,0,none⟩),.pointer (some ⟨w.heap.size+1,0,none⟩),.pointer (some ⟨w.heap.size+1+1,0,none⟩),.pointer (some ⟨g,0,none⟩),.pointer (some ⟨g,0,none⟩),.pointer (some ⟨g,4,none⟩),.slice (some ⟨b,o,none⟩) ln lc,.pointer (some ⟨b,o,none⟩),.int .u8 (x.toNat:Int),.func (.func 103) #[] #[.pointer (some ⟨w.heap.size+1+1+1,0,none⟩)],.agg #[.int .u8 ((j:Int)+1),.int .u8 ((x.toNat:Int) / 2 ^ (7-j))],undef,undef,undef,undef,undef,undef,undef,undef,undef,undef],defers:=[] }∧EvI w fs ((w.heap.size+1+1,#[.int .u8 0],83)::(w.heap.size+1,#[.int .u8 ((j:Int)+1),.int .u8 ((x.toNat:Int) / 2 ^ (7-j))],72)::(w.heap.size,#[.pointer (some ⟨g,0,none⟩)],55)::gs) (w.heap.size+4) W∧j<4∧j=pre.length∧∀t,t<j→lk (t+1) (x.toNat / 2 ^ (7-t))=0)
  (fun pre j a' _ A B row h hg hr=>⟨h.1,h.2.1.grow hg (fun r e=>by have:=(hr r e).1;omega),h.2.2⟩)
  ?assign ?body ?done ?stop
 case assign=>
  intro l pre j W K hI hV hK
  obtain⟨u,v,hE,hp⟩:=hI
  obtain⟨hj,hj4⟩:=hV
  have HK:=Lib.hid hK
  have HE:=Lib.hid hE
  obtain⟨c0,c1⟩:=cells2_row (hE.e.row 1 rfl)
  have z0:=frozen_of_row W (w.heap.size+1) 0 _ _ (hE.e.row 1 rfl)
  have z1:=frozen_of_row W (w.heap.size+1) 1 _ _ (hE.e.row 1 rfl)
  have HP:=Lib.hid hp
  have HJ:=Lib.hid hj
  clear hK hE hp hj
  unfold mkE
  gi_wp2
  have E2:=HE.out.setCells 1 rfl [.int .u8 ((j:Int)+1),.int .u8 ((x.toNat:Int) / 2 ^ (7-j))] rfl (by omega)
  have hjp:=HJ.out
  exact HK.out _ (W.setCells (w.heap.size+1) 0 [.int .u8 ((j:Int)+1),.int .u8 ((x.toNat:Int) / 2 ^ (7-j))]) (keepsFrom_setCells (HE.out.e.row 1 rfl) _ _) ⟨keepC_setCells _ (by omega),by rw[setCells_size];exact Nat.le_refl _⟩ ⟨_,_,E2,HP.out⟩ ⟨rfl,E2,hj4,hjp,fun t ht=>HP.out t (by omega)⟩
 case body=>
  rintro l pre j a' W hl0 _ ⟨rfl,hE,hj4,hjp,hp⟩ hlen2
  have ck:=cells1_row (hE.e.row 0 rfl)
  have zk:=frozen_of_row W (w.heap.size+1+1) 0 _ _ (hE.e.row 0 rfl)
  obtain⟨cm0,cm1⟩:=cells2_row (hE.e.row 1 rfl)
  have cr:=cells1_row (hE.e.row 2 rfl)
  have cg:W.cell? ⟨g,0,none⟩=some (.map (some K)):=by rw[cell_of_row W g 0 _ _ (0,0) (hE.e.row (i+1+1+1) HRD.out)];rfl
  have hx:x.toNat<256:=x.toNat_lt
  have hq:x.toNat / 2 ^ (7-j)<256:=Nat.lt_of_le_of_lt (Nat.div_le_self _ _) hx
  have hlk0:=run_kind (w:=W) (b:=K) (hE.e.f (kF K) HKF.out).1 (j+1) (x.toNat / 2 ^ (7-j)) (by omega) hq
  have hlk1:=run_kind (w:=W.drew) (b:=K) (hE.e.drew.f (kF K) HKF.out).1 (j+1) (x.toNat / 2 ^ (7-j)) (by omega) hq
  have e1:((j+1:Nat):Int)=(j:Int)+1:=by omega
  have e2:((x.toNat / 2 ^ (7-j):Nat):Int)=(x.toNat:Int) / 2 ^ (7-j):=by rw[Int.natCast_ediv,Int.natCast_pow];rfl
  rw[e1,e2] at hlk0 hlk1
  have HE:=Lib.hid hE
  have HP:=Lib.hid hp
  clear hE hp e1 e2 hx hq
  obtain⟨v,hv⟩ : ∃v,lk (j+1) (x.toNat / 2 ^ (7-j))=v:=⟨_,rfl⟩
  rw[hv] at hlk0 hlk1
  have HV:=Lib.hid hv
  clear hv
  have E2:=Lib.hid ((HE.out.setCells 0 rfl [.int .u8 (v:Int)] rfl (by omega)).drew)
  have KF:Hid (KeepsFrom Ws.heap.size W (W.setCells (w.heap.size+1+1) 0 [.int .u8 (v:Int)]).drew):=Lib.hid ((keepsFrom_setCells (HE.out.e.row 0 rfl) _ _).trans (keepsFrom_below (Below.refl _ _).drew _))
  have KC:Hid (Hf.KeepZ (fun q=>q=w.heap.size+1+1+1) W (W.setCells (w.heap.size+1+1) 0 [.int .u8 (v:Int)]).drew):=Lib.hid ⟨(keepC_setCells _ (by omega)).trans (KeepC.below (Below.refl _ _).drew),Nat.le_of_eq (setCells_size _ _ _ _).symm⟩
  have HJP:=Lib.hid hjp
  clear hjp
  by_cases h0:v=0
  ·subst h0
   gi_wp2
   gi_region_with (fail)
   all_goals
    gi_wp2
    refine⟨KF.out,KC.out,_,_,E2.out,fun t ht=>?_⟩
    rw[List.length_append,List.length_singleton,←HJP.out] at ht
    rcases Nat.lt_or_ge t j with h | h
    ·exact HP.out t h
    ·obtain rfl:t=j:=by omega
     exact HV.out
  ·have hb:((v:Int) != 0)=true:=by rw[bne_iff_ne];omega
   gi_wp2
   gi_region_with (fail)
   all_goals
    gi_wp2
    refine⟨KF.out,rfl,j,hj4,?_,?_,HP.out⟩
    ·rw[HV.out]
     exact E2.out
    ·rw[HV.out]
     exact h0
 case done=>
  rintro D ys W hD hy ⟨u,v,hE,hp⟩ hK
  rw[hy] at hp
  exact(mark_some hp).elim
 case stop=>
  rintro D cd pre W hD _ ⟨rfl,j,hj4,hE,h0,hp⟩ hK
  obtain⟨q1,q2⟩:=mark_found hj4 hp h0
  rw[←q2] at hE
  have e1:7-j=kb x:=q1.symm
  have e2:((8-kb x:Nat):Int)=(j:Int)+1:=by omega
  have e3:((x.toNat / 2 ^ kb x:Nat):Int)=(x.toNat:Int) / 2 ^ (7-j):=by rw[←e1,Int.natCast_ediv,Int.natCast_pow];rfl
  have HE2:=Lib.hid e2
  have HE3:=Lib.hid e3
  obtain⟨V,hV⟩ : ∃V,(kk x:Int)=V:=⟨_,rfl⟩
  rw[hV] at hE
  have HV:=Lib.hid hV
  have ck:=cells1_row (hE.e.row 0 rfl)
  have zk:=frozen_of_row W (w.heap.size+1+1) 0 _ _ (hE.e.row 0 rfl)
  obtain⟨cm0,cm1⟩:=cells2_row (hE.e.row 1 rfl)
  have z0:=frozen_of_row W (w.heap.size+1) 0 _ _ (hE.e.row 1 rfl)
  have z1:=frozen_of_row W (w.heap.size+1) 1 _ _ (hE.e.row 1 rfl)
  have HE:=Lib.hid hE
  have HK:=Lib.hid hK
  clear hE hK q1 q2 e1 e2 e3 hp h0 hV
  refine wpIn_wide.2 ?_
  go_wp2
  have E3:=Lib.hid (((HE.out.setCells 1 rfl [.int .u8 ((j:Int)+1),.int .u8 ((x.toNat:Int) / 2 ^ (7-j))] rfl (by omega)).setCells 0 rfl [.int .u8 V] rfl (by omega)).drew)
  have HD3:Hid (((W.setCells (w.heap.size+1) 0 [.int .u8 ((j:Int)+1),.int .u8 ((x.toNat:Int) / 2 ^ (7-j))]).setCells (w.heap.size+1+1) 0 [.int .u8 V]).drew.heap[D]? = some (.deferred (some []))):=Lib.hid ((setCells_other _ _ _ _ D (by omega)).trans ((setCells_other _ _ _ _ D (by omega)).trans HK.out))
  refine wp_to (fun a w'=>a={ tmps:=#[.pointer (some ⟨g,0,none⟩),.pointer (some ⟨w.heap.size,0,none⟩),.pointer (some ⟨w.heap.size+1,0,none⟩),.pointer (some ⟨w.heap.size+1+1,0,none⟩),.pointer (some ⟨g,0,none⟩),.pointer (some ⟨g,0,none⟩),.pointer (some ⟨g,4,none⟩),.slice (some ⟨b,o,none⟩) ln lc,.pointer (some ⟨b,o,none⟩),.int .u8 (x.toNat:Int),.func (.func 103) #[] #[.pointer (some ⟨w.heap.size+1+1+1,0,none⟩)],undef,undef,undef,undef,undef,undef,undef,undef,undef,.agg #[.int .u8 ((j:Int)+1),.int .u8 ((x.toNat:Int) / 2 ^ (7-j))],.int .u8 V],defers:=[{ target:=.collected D,args:=#[] }] }∧w'=((W.setCells (w.heap.size+1) 0 [.int .u8 ((j:Int)+1),.int .u8 ((x.toNat:Int) / 2 ^ (7-j))]).setCells (w.heap.size+1+1) 0 [.int .u8 V]).drew) ?_ ?_
  ·go_region
   all_goals exact⟨rfl,rfl⟩
  ·rintro a w' ⟨rfl,rfl⟩
   go_wp2
   have E4:=E3.out.grow (grownBy_putObj' _ D (.deferred none)) (fun r e=>by cases e;omega)
   refine⟨by simp,.inl ⟨_,_,rfl,run_takeDeferred HD3.out,⟨_,res_cell_one rfl _ _ _ _ _ _ _ _ _ _ rfl (E4.e.row 1 rfl) rfl (E4.e.row 0 rfl) Tryz.underlying72 rfl infoc_m Tryz.underlying83 rfl,?_,E4.b⟩⟩⟩
   rw[HE2.out,HE3.out,HV.out]
   rfl
end Go.Proofs.YtahiajeggbpogaaGreatDoor
