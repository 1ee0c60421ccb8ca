import Derived.Test.YtahiajeggbpogaaGreatDoorPkD
set_option maxRecDepth 100000
set_option maxHeartbeats 4000000
namespace Go.Proofs.YtahiajeggbpogaaGreatDoor
open Go.RowKit Go.Shelf Px Tx Tb Up Pk
set_option linter.unusedVariables false
set_option linter.unusedSimpArgs false
attribute [local go_sem] Oper.semAt_some
theorem below_step2{B:Nat}{w W W':World}(h:Below B w W)(hB:B≤w.heap.size)(hb:Below W.heap.size W W'):Below B w W':=h.trans (hb.mono (Nat.le_trans hB h.size))
namespace Pk
structure Rs where
 r4:Nat
 r5:Nat
 r8:Nat
 r9:Nat
 r10:Nat
 tb:Nat
 eb:Nat
 b1:Nat
def gsOf(R:Rs)(gs:List Bx)(T0:Array Value)(L1:Array Value)(v:Value)(T1:Array Value):List Bx:=
 (R.b1,L1,22)::(R.eb,#[.int .i64 0],32)::(R.tb,T1,24)::(R.r10,#[.int .i64 0],32)::(R.r9,#[.int .i64 0,.slice none 0 0],24)::(R.r8,#[.slice none 0 0],25)::(R.r5,T0,24)::(R.r4,#[v],25)::gs
def HP(w:World)(B:Nat)(fs:List Fact)(R:Rs)(gs:List Bx)(T0 L1:Array Value)(N:Nat)(L0:List UInt8)(m:Int)(xs:List Fd)(ex:List Bx)(pre:List Fd)(W:World):Prop:=
 N≤W.heap.size∧Below B w W∧∃A c v lb,BX B v (L0++kB m xs pre) lb∧(A=none→c=0)∧EnvF W (oF w.heap.size 27 (.slice A (kX m xs pre).length c) (kX m xs pre)::fF A (kX m xs pre).length (kX m xs pre)::fs) (ex++(gsOf R gs T0 L1 v #[.int .i64 m,.slice A (kX m xs pre).length c]++lb))
theorem HP.grow{w:World}{B:Nat}{fs:List Fact}{R:Rs}{gs:List Bx}{T0 L1:Array Value}{N:Nat}{L0:List UInt8}{m:Int}{xs:List Fd}{ex:List Bx}{pre:List Fd}{W W':World}{row:Option Nat}(h:HP w B fs R gs T0 L1 N L0 m xs ex pre W)(hg:W.grownBy W' row)
  (hr : ∀r,row=some r→N≤r∧∃o:Obj,W.heap[r]? = some o∧o.isCells=false) (hf : ∀x∈fs,∀k,x.on k→k<N) (hw:B≤N) (hw2:B≤W.heap.size):HP w B fs R gs T0 L1 N L0 m xs ex pre W':=by
 obtain⟨h1,h2,A,c,v,lb,h3,h4,h5⟩:=h
 refine⟨Nat.le_trans h1 hg.size,h2.grown hg hw2 (fun r e=>by have:=(hr r e).1;omega),A,c,v,lb,h3,h4,?_⟩
 refine envgrow2 h5 hg (fun r e=>(hr r e).2) (fun x hx r e hon=>?_)
 obtain⟨hN,o,ho,hc⟩:=hr r e
 rcases List.mem_cons.1 hx with rfl | hx
 ·obtain⟨o2,h7,h8⟩:=OwnF.iscells (h5.own (List.mem_cons_self ..)) hon;rw[ho] at h7;cases h7;rw[hc] at h8;cases h8
 rcases List.mem_cons.1 hx with rfl | hx
 ·have:=Pk.fF_cells (h5.fs (List.mem_cons_of_mem _ (List.mem_cons_self ..))) hon ho;rw[hc] at this;cases this
 ·have:=hf x hx r hon;omega
theorem HP.on{w:World}{B:Nat}{fs:List Fact}{R:Rs}{gs:List Bx}{T0 L1:Array Value}{N:Nat}{L0:List UInt8}{m:Int}{xs:List Fd}{ex:List Bx}{pre:List Fd}{W W':World}(h:HP w B fs R gs T0 L1 N L0 m xs ex pre W)(hb:Below W.heap.size W W')(hB:B≤w.heap.size):HP w B fs R gs T0 L1 N L0 m xs ex pre W':=by
 obtain⟨h1,h2,A,c,v,lb,h3,h4,h5⟩:=h
 exact⟨Nat.le_trans h1 hb.size,below_step2 h2 hB hb,A,c,v,lb,h3,h4,h5.on hb⟩
theorem HP.told{w:World}{B:Nat}{fs:List Fact}{R:Rs}{gs:List Bx}{T0 L1:Array Value}{N:Nat}{L0:List UInt8}{m:Int}{xs:List Fd}{pre:List Fd}{W W':World}{g:Nat}{cs:Array Value}{t:TypeId}(h:HP w B fs R gs T0 L1 N L0 m xs [] pre W)(hb:Below W.heap.size W W')(hB:B≤w.heap.size)(hg:W.heap.size≤g)(hr:W'.heap[g]? = some (.cells cs t)):HP w B fs R gs T0 L1 N L0 m xs [(g,cs,t)] pre W':=by
 obtain⟨h1,h2,A,c,v,lb,h3,h4,h5⟩:=h
 refine⟨Nat.le_trans h1 hb.size,below_step2 h2 hB hb,A,c,v,lb,h3,h4,?_⟩
 refine env_cons (y:=(g,cs,t)) (h5.on hb) hr (fun x hx hon=>?_) (fun z hz e=>?_)
 ·have:=((h5.f x hx).2 g hon).1;omega
 ·have:=h5.lt hz;simp only at e;omega
end Pk
theorem c_block_go{fs:List Fact}{gs lb:List Bx}{B:Nat}{L0:List UInt8}{M m:Int}{A:Option Addr}{n c:Nat}{xs ls X:List Fd}{k1:Nat}(b0:Option Addr)(k0 d0:Nat)(LA:Option Addr)(ln lc:Nat)(w:World)(hV:EnvF w fs (gs++lb))(hl:BX B (.slice b0 k0 d0) L0 lb)(hBw:B≤w.heap.size)(hA:fF A n xs∈fs)(hL:fF LA ln ls∈fs)(hN:A=none→c=0)(hF:full xs≤100000)(hS:stF∈fs)(hR:rwF∈fs)(hM:mvF∈fs)(hr:rightB m X=true)(h1:resM M xs m=m)(h2:resE M xs m=0)(h3:resL M xs m=X)(h4:X.length=k1)(hz:full ls≤7000)(hl0:L0.length≤100) :
  Calls Tryz.prog 57 #[.slice b0 k0 d0,.agg #[.int .i64 M,.slice A n c],.int .i64 m,.slice LA ln lc] w fun e w'=>∃v' A' c' lb',e = .returned (.tuple #[v',.agg #[.int .i64 m,.slice A' (kX m X ls).length c'],.int .i64 0])∧Below B w w'∧BX B v' (L0++kB m X ls) lb'∧(A'=none→c'=0)∧EnvF w' (oF w.heap.size 27 (.slice A' (kX m X ls).length c') (kX m X ls)::fF A' (kX m X ls).length (kX m X ls)::fs) (gs++lb'):=by
 have K0:=Lib.hid ((((((hV).boxg 25 #[.slice b0 k0 d0] w.heap.size rfl).boxg 24 #[.int .i64 M,.slice A n c] (w.heap.size+1) (by simp)).boxg 25 #[.slice none 0 0] (w.heap.size+1+1) (by simp)).boxg 24 #[.int .i64 0,.slice none 0 0] (w.heap.size+1+1+1) (by simp)).boxg 32 #[.int .i64 0] (w.heap.size+1+1+1+1) (by simp))
 have G0:=Lib.hid ((((((Below.refl B w).alloc (hBw) (.cells #[.slice b0 k0 d0] 25)).alloc (by simp;omega) (.cells #[.int .i64 M,.slice A n c] 24)).alloc (by simp;omega) (.cells #[.slice none 0 0] 25)).alloc (by simp;omega) (.cells #[.int .i64 0,.slice none 0 0] 24)).alloc (by simp;omega) (.cells #[.int .i64 0] 32))
 have HA:=Lib.hid hA
 have HLS:=Lib.hid hL
 have HN:=Lib.hid hN
 have HS:=Lib.hid hS
 have HR:=Lib.hid hR
 have HM:=Lib.hid hM
 have HRT:=Lib.hid hr
 have H1:=Lib.hid h1
 have H2:=Lib.hid h2
 have H3:=Lib.hid h3
 have H4:=Lib.hid h4
 have HBX:=Lib.hid hl
 have HZ:=Lib.hid hz
 have HLN:=Lib.hid (hV.fs hL).1
 have HFS:Hid (∀x∈fs,∀k,x.on k→k<w.heap.size):=Lib.hid fun x hx k hk=>((hV.f x hx).2 k hk).1
 have h5:((0:Int) != 0)=false:=rfl
 clear hV hA hL hN hS hR hM hr h1 h2 h3 h4 hl hz
 refine(callsIn_wide (n:=6)).1 (callsIn_of_wp_marks Tryz.func57 rfl trivial ?_ rfl)
 refine wpIn_wide.2 ?_
 simp only[Tryz.ntmps57,List.size_toArray,List.length_cons,List.length_nil,Nat.reduceAdd,Nat.reduceSub,Array.replicate_succ,Array.replicate_zero,List.push_toArray,List.append_toArray,List.nil_append,List.cons_append]
 go_wp2_with (first
  | go_skip
  | (refine at_load 24 (.tmp 5) (by rfl) ?_;refine wpListG_row (by rfl) 24 (.tmp 5) (by rfl) (w.heap.size+1) (by rfl) 24 #[.int .i64 M,.slice A n c] _ (K0.out.row 3 rfl) Tryz.underlying24 (by rfl) infoc_T ?_)
  | (go_at_call 59;(with_reducible refine(p_resize (B:=w.heap.size) (A:=A) (n:=n) (xs:=xs) _ K0.out (by simp only[World.size_alloc];omega) HA.out HN.out hF H1.out H2.out H3.out H4.out).mono ?_);rintro e w1 ⟨A1,c1,rfl,hb,hE,HA10⟩;have K1:=Lib.hid hE;have HA1:=Lib.hid HA10;have G1:=Lib.hid (below_step2 G0.out hBw hb);clear hb hE HA10 K0 G0;have K1b:=Lib.hid (K1.out.boxg 24 #[.int .i64 0,.slice none 0 0] w1.heap.size rfl);have hz1:w.heap.size≤w1.heap.size:=G1.out.size;have G1b:=Lib.hid (G1.out.alloc (Nat.le_trans hBw hz1) (.cells #[.int .i64 0,.slice none 0 0] 24));clear K1 G1;have K1bb:=Lib.hid (K1b.out.boxg 32 #[.int .i64 0] (w1.heap.size+1) (by simp));have G1bb:=Lib.hid (G1b.out.alloc (by simp;omega) (.cells #[.int .i64 0] 32));clear K1b G1b)
  | (refine at_store 24 (.tmp 11) (.tmp 19) (by rfl) ?_;refine wpList_put (by rfl) 24 (.tmp 11) (.tmp 19) (by rfl) w1.heap.size 0 (.agg #[.int .i64 m,.slice A1 k1 c1]) (by rfl) (by rfl) 24 #[.int .i64 0,.slice none 0 0] #[.int .i64 m,.slice A1 k1 c1] (K1bb.out.row 1 rfl) (by simp[Value.cells]) (by kernel_rfl) infoc_T (by kernel_rfl) ?_;intro w2 hrow hoth hz hbl;have K2:=Lib.hid (K1bb.out.turn 1 rfl hrow hoth hz);have G2:=Lib.hid (hbl _ _ (by omega) G1bb.out);clear hrow hoth hz hbl K1bb G1bb)
  | (refine at_store 32 (.tmp 12) (.tmp 20) (by rfl) ?_;refine wpList_put (by rfl) 32 (.tmp 12) (.tmp 20) (by rfl) (w1.heap.size+1) 0 (.int .i64 0) (by rfl) (by rfl) 32 #[.int .i64 0] #[.int .i64 0] (K2.out.row 0 rfl) (by simp[Value.cells]) (by kernel_rfl) infoc_er (by kernel_rfl) ?_;intro w3 hrow hoth hz hbl;have K3:=Lib.hid (K2.out.turn 0 rfl hrow hoth hz);have G3:=Lib.hid (hbl _ _ (by omega) G2.out);clear hrow hoth hz hbl K2 G2)
  | (refine at_load 32 (.tmp 12) (by rfl) ?_;refine wpListG_get (by rfl) 32 (.tmp 12) (by rfl) (w1.heap.size+1) 0 (by rfl) 32 #[.int .i64 0] (.int .i64 0) _ (K3.out.row 0 rfl) (by rfl) Tryz.underlying32 (by rfl) ?_)
  | (go_at_call 80;(with_reducible refine(c_tellings LA ln lc _).mono ?_);rintro e w6 ⟨rfl,rfl⟩))
 obtain⟨b1,hb1⟩ : ∃b1,w3.heap.size=b1:=⟨_,rfl⟩
 obtain⟨Ws,hWs⟩ : ∃Ws,w3.alloc (.cells #[.slice LA ln lc] 22)=Ws:=⟨_,rfl⟩
 have hzN:Ws.heap.size=b1+1:=by rw[←hWs,←hb1];simp
 have E6:=K3.out.boxg 22 #[.slice LA ln lc] w3.heap.size rfl
 have hwN:w.heap.size+5≤b1:=by have:=K3.out.lt (y:=(w.heap.size+1+1+1+1,_,_)) (List.mem_of_getElem? (i:=2) rfl);simp only at this;omega
 have htN:w1.heap.size+1<b1:=by have:=K3.out.lt (y:=(w1.heap.size+1,_,_)) (List.mem_of_getElem? (i:=0) rfl);simp only at this;omega
 have B6:=G3.out.alloc (Nat.le_trans hBw G3.out.size) (.cells #[.slice LA ln lc] 22)
 obtain⟨R,hR0⟩ : ∃R:Rs,R=⟨w.heap.size,w.heap.size+1,w.heap.size+1+1,w.heap.size+1+1+1,w.heap.size+1+1+1+1,w1.heap.size,w1.heap.size+1,b1⟩:=⟨_,rfl⟩
 have hfN : ∀x∈fs,∀k,x.on k→k<b1+1:=fun x hx k hk=>by have:=HFS.out x hx k hk;omega
 have hHP0:HP w B fs R gs #[.int .i64 M,.slice A n c] #[.slice LA ln lc] (b1+1) L0 m X [] [] Ws:=by
  refine⟨by omega,hWs ▸ B6,A1,c1,.slice b0 k0 d0,lb,by rw[show kB m X []=[] from rfl,List.append_nil];exact HBX.out,HA1.out,?_⟩
  rw[←hWs]
  subst hR0
  rw[show(kX m X []).length=k1 from H4.out]
  show EnvF _ (oF w.heap.size 27 (.slice A1 k1 c1) X::fF A1 k1 X::fs) _
  subst hb1
  exact E6
 have HHP0:=Lib.hid hHP0
 have HACC:Hid (∀(pre:List Fd) (W:World),HP w B fs R gs #[.int .i64 M,.slice A n c] #[.slice LA ln lc] (b1+1) L0 m X [] pre W→Fs W W.heap.size LA ln ls∧W.cell? ⟨b1,0,none⟩=some (.slice LA ln lc)∧∀W',Below W.heap.size W W'→HP w B fs R gs #[.int .i64 M,.slice A n c] #[.slice LA ln lc] (b1+1) L0 m X [] pre W'):=Lib.hid fun pre W h=>by
  refine⟨?_,?_,fun W' hb=>h.on hb hBw⟩
  ·obtain⟨_,_,A',c',v,lb',_,_,h5⟩:=h
   exact h5.fs (List.mem_cons_of_mem _ (List.mem_cons_of_mem _ HLS.out))
  ·obtain⟨_,_,A',c',v,lb',_,_,h5⟩:=h
   subst hR0
   exact cells1_row (h5.row 0 rfl)
 have hlnB:ln≤1000000:=by have h1:=full_len ls;have h2:=HLN.out;have h3:=HZ.out;omega
 clear hHP0 E6 B6 K3 G3
 rw[hWs]
 clear hWs
 rw[hb1]
 clear hb1
 refine(wpIn_wide (n:=6)).1 ?_
 refine wpIn_rangeFunc_jointW rfl (by omega) (gf:=101) (lb:=#[.pointer (some ⟨b1,0,none⟩)]) rfl trivial (enters_of Tryz.func101 (by kernel_rfl) rfl)
  (V:=VT ls (fun pre _ W=>pre.length≤ls.length∧HP w B fs R gs #[.int .i64 M,.slice A n c] #[.slice LA ln lc] (b1+1) L0 m X [] (ls.take pre.length) W)) (S:=fun xs _=>xs.map Prod.fst=ls) (Sp:=fun _=>True) (s0:=()) (encs:=eT)
  (fun pre _ W=>pre.length≤ls.length∧HP w B fs R gs #[.int .i64 M,.slice A n c] #[.slice LA ln lc] (b1+1) L0 m X [] (ls.take pre.length) W)
  (fun _ _ _=>False)
  (fun l J Xx W hJI hJB hY hJ0=>tellings1_in 5 (by omega) l b1 LA ln lc ls _ J Xx W hJI hJB (fun pre W h=>⟨(HACC.out _ _ h.2).1,(HACC.out _ _ h.2).2.1,fun W' hb=>⟨h.1,(HACC.out _ _ h.2).2.2 W' hb⟩⟩) hlnB hY hJ0)
  (fun _=>rfl)
  (fun q A' B' row h hg hr=>⟨h.1,h.2.grow hg (fun r e=>⟨by have:=(hr r e).1;omega,(hr r e).2⟩) hfN (by omega) (by have:=h.2.1;omega)⟩)
  (fun cd pre A' B' row h hg hr=>h)
  ⟨Nat.zero_le _,HHP0.out⟩
  (fun pre s' x a' W=>a'={ tmps:=#[.slice b0 k0 d0,.agg #[.int .i64 M,.slice A n c],.int .i64 m,.slice LA ln lc,.pointer (some ⟨w.heap.size,0,none⟩),.pointer (some ⟨w.heap.size+1,0,none⟩),undef,undef,.pointer (some ⟨w.heap.size+1+1,0,none⟩),.pointer (some ⟨w.heap.size+1+1+1,0,none⟩),.pointer (some ⟨w.heap.size+1+1+1+1,0,none⟩),.pointer (some ⟨w1.heap.size,0,none⟩),.pointer (some ⟨w1.heap.size+1,0,none⟩),.func (.func 120) #[] #[.pointer (some ⟨x.2,0,none⟩)],undef,.tuple #[.agg #[.int .i64 m,.slice A1 k1 c1],.int .i64 0],.agg #[.int .i64 M,.slice A n c],.int .i64 m,.tuple #[.agg #[.int .i64 m,.slice A1 k1 c1],.int .i64 0],.agg #[.int .i64 m,.slice A1 k1 c1],.int .i64 0,.int .i64 0,.bool false,undef,undef,.slice LA ln lc,.func (.func 101) #[] #[.pointer (some ⟨b1,0,none⟩)],.func (.func 120) #[] #[.pointer (some ⟨x.2,0,none⟩)],undef,undef,undef,undef,undef,undef,undef,undef,undef,undef,undef,undef,undef,undef,undef,undef],defers:=[] }∧HP w B fs R gs #[.int .i64 M,.slice A n c] #[.slice LA ln lc] (b1+1) L0 m X [(x.2,#[.string x.1.1,.string x.1.2],27)] (ls.take pre.length) W∧ls[pre.length]? = some x.1)
  (fun pre s x a' _ A' B' row h hg hr=>⟨h.1,h.2.1.grow hg (fun r e=>⟨by have:=(hr r e).1;omega,(hr r e).2⟩) hfN (by omega) (by have:=h.2.1.1;omega),h.2.2⟩)
  ?assign ?body ?done ?stop
 case assign=>
  rintro l pre s x s' W KK hI ⟨W0,hI0,hb0,hx0,hx1,hx2⟩ hK
  have HT:=Lib.hid (hI0.2.told hb0 hBw hx0 hx1)
  have HK:=Lib.hid hK
  have HX2:=Lib.hid hx2
  clear hI hI0 hb0 hx0 hx1 hK hx2
  unfold eT
  gi_wp2
  refine HK.out _ _ (keepsFrom_below (Below.refl _ W) _) ⟨rfl,HT.out,HX2.out⟩
 case body=>
  rintro l pre s' x a' W hll ⟨rfl,hW,hpre⟩
  obtain⟨k,hk⟩ : ∃k,pre.length=k:=⟨_,rfl⟩
  rw[hk] at hW hpre
  obtain⟨⟨f1,f2⟩,g⟩:=x
  simp only at hW hpre
  have hsn:=take_snoc hpre
  have hkX:kX m X (ls.take (k+1))=fX m (kX m X (ls.take k)) (f1,f2):=by rw[←hsn,kX_snoc]
  have hkB:kB m X (ls.take (k+1))=kB m X (ls.take k)++fB m (kX m X (ls.take k)) (f1,f2):=by rw[←hsn,kB_snoc]
  have hrk:=kX_right HRT.out (ls.take k)
  have hlk:(kB m X (ls.take k)).length≤7000:=by have h1:=kB_len m (ls.take k) X (by have:=full_take ls k;have:=HZ.out;omega);have h2:=full_take ls k;have:=HZ.out;omega
  have hlf:(fB m (kX m X (ls.take k)) (f1,f2)).length≤7000:=by have h1:=fB_len m (kX m X (ls.take k)) (f:=(f1,f2)) (by have:=sz_le hpre;have:=HZ.out;omega);have:=sz_le hpre;have:=HZ.out;omega
  have hszf:sz ((f1,f2):Fd)≤7000:=by have:=sz_le hpre;have:=HZ.out;omega
  have hpos:0<(fB m (kX m X (ls.take k)) (f1,f2)).length:=fB_pos m hrk
  have hkl:k+1≤ls.length:=(List.getElem?_eq_some_iff.1 hpre).1
  have hpl:(pre++[(((f1,f2):Fd),g)]).length=k+1:=by rw[List.length_append,hk];rfl
  obtain⟨hN2,hbw,A3,c3,v,lbv,hLB,hA3,hE8⟩:=hW
  obtain⟨Xk,hXk⟩ : ∃Xk,kX m X (ls.take k)=Xk:=⟨_,rfl⟩
  obtain⟨Bk,hBk⟩ : ∃Bk,kB m X (ls.take k)=Bk:=⟨_,rfl⟩
  rw[hXk] at hkX hkB hrk hlf hpos hE8
  rw[hBk] at hkB hlk hLB
  obtain⟨nk,hnk⟩ : ∃nk,Xk.length=nk:=⟨_,rfl⟩
  rw[hnk] at hE8
  obtain⟨Lf,hLf⟩ : ∃Lf,fB m Xk (f1,f2)=Lf:=⟨_,rfl⟩
  rw[hLf] at hkB hlf hpos
  obtain⟨Xf,hXf⟩ : ∃Xf,fX m Xk (f1,f2)=Xf:=⟨_,rfl⟩
  rw[hXf] at hkX
  obtain⟨nf,hnf⟩ : ∃nf,Xf.length=nf:=⟨_,rfl⟩
  obtain⟨kf,hkf⟩ : ∃kf,Lf.length=kf:=⟨_,rfl⟩
  subst hR0
  simp only[gsOf,List.cons_append,List.nil_append] at hE8
  have HC:Hid (∀W5:World,w.heap.size≤W5.heap.size→EnvF W5 (oF w.heap.size 27 (.slice A3 nk c3) Xk::fF A3 nk Xk::fs) ((g,#[.string f1,.string f2],27)::(b1,#[.slice LA ln lc],22)::(w1.heap.size+1,#[.int .i64 0],32)::(w1.heap.size,#[.int .i64 m,.slice A3 nk c3],24)::(w.heap.size+1+1+1+1,#[.int .i64 0],32)::(w.heap.size+1+1+1,#[.int .i64 0,.slice none 0 0],24)::(w.heap.size+1+1,#[.slice none 0 0],25)::(w.heap.size+1,#[.int .i64 M,.slice A n c],24)::(w.heap.size,#[v],25)::(gs++lbv))→Calls Tryz.prog 120 #[.agg #[.int .i64 m,.slice A3 nk c3],.pointer (some ⟨g,0,none⟩)] W5 fun e w'=>∃A1 c1 A2 c2,e = .returned (.tuple #[.slice A1 kf c1,.agg #[.int .i64 m,.slice A2 nf c2],.int .i64 0])∧Below W5.heap.size W5 w'∧EnvF w' (bF A1 kf Lf::oF w.heap.size 27 (.slice A2 nf c2) Xf::fF A2 nf Xf::oF w.heap.size 27 (.slice A3 nk c3) Xk::fF A3 nk Xk::fs) ((g,#[.string f1,.string f2],27)::(b1,#[.slice LA ln lc],22)::(w1.heap.size+1,#[.int .i64 0],32)::(w1.heap.size,#[.int .i64 m,.slice A3 nk c3],24)::(w.heap.size+1+1+1+1,#[.int .i64 0],32)::(w.heap.size+1+1+1,#[.int .i64 0,.slice none 0 0],24)::(w.heap.size+1+1,#[.slice none 0 0],25)::(w.heap.size+1,#[.int .i64 M,.slice A n c],24)::(w.heap.size,#[v],25)::(gs++lbv))∧(kf≤c1∧(A1=none→c1=0))∧(A2=none→c2=0)):=Lib.hid fun W5 hz5 h=>c_of1 m A3 nk c3 Xk g (f1,f2) W5 h hz5 (by simp) (by simp) hA3 (by simp[HS.out]) (by simp[HR.out]) (by simp[HM.out]) hszf hrk hLf hXf hkf hnf
  have HPOS:Hid (0<kf):=Lib.hid (hkf ▸ hpos)
  have HLEN:Hid ((L0++Bk).length+kf≤1000000):=Lib.hid (by rw[List.length_append];omega)
  obtain⟨n4,hn4⟩ : ∃n4,(L0++Bk++Lf).length=n4:=⟨_,rfl⟩
  have HN4:=Lib.hid hn4
  clear hpos hlk hlf hn4
  have HE8:=Lib.hid hE8
  have HBW:=Lib.hid hbw
  have HLB:=Lib.hid hLB
  have HP1:=Lib.hid (And.intro hkX (And.intro hkB (And.intro hnf (And.intro hkf hpl))))
  obtain⟨ct0,ct1⟩:=cells2_row (hE8.row 3 rfl)
  clear hE8 hbw hLB hkX hkB hnf hpl hpre hsn hk HHP0
  obtain⟨i0,hi,hz0,hz1',hz2⟩:=info_parts info_tu8
  have hinf:=Lib.hid (And.intro hi (And.intro hz0 (And.intro hz1' hz2)))
  clear hi hz0 hz1' hz2
  have hne1:w1.heap.size≠w.heap.size:=HE8.out.ne 3 8 rfl rfl (by omega)
  have hne2:w.heap.size≠w1.heap.size:=fun h=>hne1 h.symm
  have hne3:w1.heap.size+1≠w.heap.size:=by omega
  have hne4:w.heap.size≠w1.heap.size+1:=by omega
  have HS5:Hid (∀(W5:World) (A5 A6:Option Addr) (c6:Nat),EnvF W5 (bF A5 kf Lf::oF w.heap.size 27 (.slice A6 nf c6) Xf::fF A6 nf Xf::oF w.heap.size 27 (.slice A3 nk c3) Xk::fF A3 nk Xk::fs) ((g,#[.string f1,.string f2],27)::(b1,#[.slice LA ln lc],22)::(w1.heap.size+1,#[.int .i64 0],32)::(w1.heap.size,#[.int .i64 m,.slice A3 nk c3],24)::(w.heap.size+1+1+1+1,#[.int .i64 0],32)::(w.heap.size+1+1+1,#[.int .i64 0,.slice none 0 0],24)::(w.heap.size+1+1,#[.slice none 0 0],25)::(w.heap.size+1,#[.int .i64 M,.slice A n c],24)::(w.heap.size,#[v],25)::gs++lbv)→∃b5 o5,A5=some ⟨b5,o5,none⟩∧EnvF (((W5.setCell ⟨w1.heap.size,0,none⟩ (.int .i64 m)).setCell ⟨w1.heap.size,1,none⟩ (.slice A6 nf c6)).setCell ⟨w1.heap.size+1,0,none⟩ (.int .i64 0)) (bF (some ⟨b5,o5,none⟩) kf Lf::oF w.heap.size 27 (.slice A6 nf c6) Xf::fF A6 nf Xf::oF w.heap.size 27 (.slice A3 nk c3) Xk::fF A3 nk Xk::fs) ((g,#[.string f1,.string f2],27)::(b1,#[.slice LA ln lc],22)::(w1.heap.size+1,#[.int .i64 0],32)::(w1.heap.size,#[.int .i64 m,.slice A6 nf c6],24)::(w.heap.size+1+1+1+1,#[.int .i64 0],32)::(w.heap.size+1+1+1,#[.int .i64 0,.slice none 0 0],24)::(w.heap.size+1+1,#[.slice none 0 0],25)::(w.heap.size+1,#[.int .i64 M,.slice A n c],24)::(w.heap.size,#[v],25)::gs++lbv)∧(∀j u,(Lf.map bv)[j]? = some u→(((W5.setCell ⟨w1.heap.size,0,none⟩ (.int .i64 m)).setCell ⟨w1.heap.size,1,none⟩ (.slice A6 nf c6)).setCell ⟨w1.heap.size+1,0,none⟩ (.int .i64 0)).cell? ((⟨b5,o5,none⟩:Addr).add j)=some u)∧OwnB (((W5.setCell ⟨w1.heap.size,0,none⟩ (.int .i64 m)).setCell ⟨w1.heap.size,1,none⟩ (.slice A6 nf c6)).setCell ⟨w1.heap.size+1,0,none⟩ (.int .i64 0)) B 5 v (L0++Bk)∧KeepsFrom Ws.heap.size W5 (((W5.setCell ⟨w1.heap.size,0,none⟩ (.int .i64 m)).setCell ⟨w1.heap.size,1,none⟩ (.slice A6 nf c6)).setCell ⟨w1.heap.size+1,0,none⟩ (.int .i64 0))∧(∀W0,Below B W0 W5→W0.heap.size=w.heap.size→Below B W0 (((W5.setCell ⟨w1.heap.size,0,none⟩ (.int .i64 m)).setCell ⟨w1.heap.size,1,none⟩ (.slice A6 nf c6)).setCell ⟨w1.heap.size+1,0,none⟩ (.int .i64 0)))):=Lib.hid fun W5 A5 A6 c6 hE5=>by
   obtain⟨b5,o5,rfl,_,_⟩:=bs_cells (hE5.bs (A:=A5) (n:=kf) (xs:=Lf) (by simp)) HPOS.out
   have E6:=hE5.setCells 3 rfl [.int .i64 m,.slice A6 nf c6] rfl
   have E7:EnvF (((W5.setCell ⟨w1.heap.size,0,none⟩ (.int .i64 m)).setCell ⟨w1.heap.size,1,none⟩ (.slice A6 nf c6)).setCell ⟨w1.heap.size+1,0,none⟩ (.int .i64 0)) (bF (some ⟨b5,o5,none⟩) kf Lf::oF w.heap.size 27 (.slice A6 nf c6) Xf::fF A6 nf Xf::oF w.heap.size 27 (.slice A3 nk c3) Xk::fF A3 nk Xk::fs) ((g,#[.string f1,.string f2],27)::(b1,#[.slice LA ln lc],22)::(w1.heap.size+1,#[.int .i64 0],32)::(w1.heap.size,#[.int .i64 m,.slice A6 nf c6],24)::(w.heap.size+1+1+1+1,#[.int .i64 0],32)::(w.heap.size+1+1+1,#[.int .i64 0,.slice none 0 0],24)::(w.heap.size+1+1,#[.slice none 0 0],25)::(w.heap.size+1,#[.int .i64 M,.slice A n c],24)::(w.heap.size,#[v],25)::gs++lbv):=envsetCell1 (j:=0) E6 2 rfl (.int .i64 0) (cs:=#[.int .i64 0]) rfl
   obtain⟨_,_,e,_,hc⟩:=bs_cells (E7.bs (A:=some ⟨b5,o5,none⟩) (n:=kf) (xs:=Lf) (by simp)) HPOS.out
   cases e
   exact⟨b5,o5,rfl,E7,hc,HLB.out.own E7 (fun y hy=>List.mem_append_right _ hy),(keepsFrom_setCells (hE5.row 3 rfl) [.int .i64 m,.slice A6 nf c6] _).trans (keepsFrom_setCell1 (E6.row 2 rfl) _ _),fun W0 h h0=>(setCells_below (g:=w1.heap.size) (by omega) [.int .i64 m,.slice A6 nf c6] 0 _ _ h).setCell (p:=⟨w1.heap.size+1,0,none⟩) (by simp only;omega) _⟩
  gi_wp2_with (first
   | (refine⟨trivial,?_⟩;(with_reducible refine(CallsIn.inRound l (callsIn_wide.2 (HC.out _ HBW.out.size HE8.out))).mono ?_);rintro e W5 ⟨A5,c5,A6,c6,rfl,hb5,hE5,hkc5,hn6⟩;obtain⟨b5,o5,rfl,hE7,hc7,ho7,hk7,hbb⟩:=HS5.out _ _ _ c6 hE5;obtain⟨ca0,ca1⟩:=cells2_row (hE5.row 3 rfl);have ce0:=cells1_row (hE5.row 2 rfl);have cv0:=cells1_row (hE5.row 8 rfl);have za0:=frozen_of_row W5 w1.heap.size 0 _ _ (hE5.row 3 rfl);have za1:=frozen_of_row W5 w1.heap.size 1 _ _ (hE5.row 3 rfl);have ze0:=frozen_of_row W5 (w1.heap.size+1) 0 _ _ (hE5.row 2 rfl);have E7:=Lib.hid hE7;have C7:=Lib.hid hc7;have O7:=Lib.hid ho7;have K7:=Lib.hid hk7;have B5:=Lib.hid hb5;have BB:=Lib.hid hbb;have N6:=Lib.hid hn6;clear hE7 hc7 ho7 hk7 hb5 hE5 hkc5 hn6 hbb)
   | (gi_at_builtin;refine wpListIn_append_full _ rfl (.tmp 39) (.tmp 40) 25 rfl B 5 i0 Tryz.underlying25 hinf.out.1 hinf.out.2.1 hinf.out.2.2.1 hinf.out.2.2.2 v (L0++Bk) rfl O7.out ⟨b5,o5,none⟩ kf c5 Lf rfl C7.out HP1.out.2.2.2.1 HLEN.out (by have:=HBW.out.size;have:=B5.out.size;simp;omega) ?_;intro v4 w4 hown4 hb4 hg4 hv4;obtain⟨A4,c4,rfl,_⟩:=hown4.handS (n:=n4) HN4.out;obtain⟨lb4,hl4,hE4⟩:=bx_append (gs:=(g,#[.string f1,.string f2],27)::(b1,#[.slice LA ln lc],22)::(w1.heap.size+1,#[.int .i64 0],32)::(w1.heap.size,#[.int .i64 m,.slice A6 nf c6],24)::(w.heap.size+1+1+1+1,#[.int .i64 0],32)::(w.heap.size+1+1+1,#[.int .i64 0,.slice none 0 0],24)::(w.heap.size+1+1,#[.slice none 0 0],25)::(w.heap.size+1,#[.int .i64 M,.slice A n c],24)::(w.heap.size,#[v],25)::gs) E7.out HLB.out hown4 hg4 hv4;have HL4:=Lib.hid hl4;have HE4:=Lib.hid hE4;have HB4:=Lib.hid hb4;have HG4:=Lib.hid hg4;have cx4:=cells1_row (hE4.row 8 rfl);have zx4:=frozen_of_row w4 w.heap.size 0 _ _ (hE4.row 8 rfl);clear hl4 hE4 hb4 hg4 hv4 hown4))
  refine⟨(((keepsFrom_below B5.out _).trans K7.out).trans (keepsFrom_grown HG4.out (fun r hr=>O7.out.iscells hr) _)).trans (keepsFrom_setCell1 (HE4.out.row 8 rfl) _ _),trivial,?_⟩
  dsimp only
  rw[HP1.out.2.2.2.2]
  refine⟨hkl,?_,?_,A6,c6,.slice A4 n4 c4,lb4,?_,N6.out,?_⟩
  ·have h1:=HG4.out.size
   have h2:=K7.out.size
   have h3:=B5.out.size
   simp at h1 h2 ⊢
   omega
  ·exact((BB.out w (below_step2 HBW.out hBw B5.out) rfl).trans HB4.out).setCell (p:=⟨w.heap.size,0,none⟩) (by simp only;omega) _
  ·rw[HP1.out.2.1,←List.append_assoc]
   exact HL4.out
  ·rw[HP1.out.1,HP1.out.2.2.1]
   exact(Pk.envsetCell1 (j:=0) HE4.out 8 rfl (.slice A4 n4 c4) (cs:=#[.slice A4 n4 c4]) rfl).sub (fun y hy=>by
    simp only[List.mem_cons] at hy ⊢
    rcases hy with rfl | rfl | hy<;>simp[*]) (List.sublist_cons_self _ _)
 case done=>
  rintro D xs' s W hD hS ⟨hle,hI⟩ hK
  have hxl:xs'.length=ls.length:=by rw[←hS,List.length_map]
  rw[hxl,List.take_length] at hI
  obtain⟨hN2,hbw,A3,c3,v,lbv,hLB,hA3,hE8⟩:=hI
  subst hR0
  simp only[gsOf,List.nil_append] at hE8
  obtain⟨Xk,hXk⟩ : ∃Xk,kX m X ls=Xk:=⟨_,rfl⟩
  obtain⟨Bk,hBk⟩ : ∃Bk,kB m X ls=Bk:=⟨_,rfl⟩
  obtain⟨nk,hnk⟩ : ∃nk,Xk.length=nk:=⟨_,rfl⟩
  rw[hXk,hnk] at hE8
  rw[hBk] at hLB
  have HXK:=Lib.hid (And.intro hXk (And.intro hBk hnk))
  clear hXk hBk hnk
  obtain⟨A4,c4,hv4,_,_⟩:=hLB.form hE8
  obtain⟨n4,hn4⟩ : ∃n4,(L0++Bk).length=n4:=⟨_,rfl⟩
  rw[hn4] at hv4
  subst hv4
  clear hn4
  have K8:=Lib.hid hE8
  have G8:=Lib.hid hbw
  have HD0:=Lib.hid hK
  have HLB:=Lib.hid hLB
  clear hE8 hbw hK hLB hS HHP0 HACC
  go_wp2
  obtain⟨cc2a,cc2b⟩:=cells2_row (K8.out.row 2 rfl)
  have cc3:=cells1_row (K8.out.row 3 rfl)
  obtain⟨cc4a,cc4b⟩:=cells2_row (K8.out.row 4 rfl)
  have cc5:=cells1_row (K8.out.row 5 rfl)
  have cc7:=cells1_row (K8.out.row 7 rfl)
  have zz5_0:=frozen_of_row W ((w.heap.size+1+1)) 0 _ _ (K8.out.row 5 rfl)
  have zz4_0:=frozen_of_row W ((w.heap.size+1+1+1)) 0 _ _ (K8.out.row 4 rfl)
  have zz4_1:=frozen_of_row W ((w.heap.size+1+1+1)) 1 _ _ (K8.out.row 4 rfl)
  have zz3_0:=frozen_of_row W ((w.heap.size+1+1+1+1)) 0 _ _ (K8.out.row 3 rfl)
  have ne2_5:w1.heap.size≠(w.heap.size+1+1):=K8.out.ne 2 5 rfl rfl (by omega)
  have ne5_2:(w.heap.size+1+1)≠w1.heap.size:=K8.out.ne 5 2 rfl rfl (by omega)
  have ne2_4:w1.heap.size≠(w.heap.size+1+1+1):=K8.out.ne 2 4 rfl rfl (by omega)
  have ne4_2:(w.heap.size+1+1+1)≠w1.heap.size:=K8.out.ne 4 2 rfl rfl (by omega)
  have ne2_3:w1.heap.size≠(w.heap.size+1+1+1+1):=K8.out.ne 2 3 rfl rfl (by omega)
  have ne3_2:(w.heap.size+1+1+1+1)≠w1.heap.size:=K8.out.ne 3 2 rfl rfl (by omega)
  have ne3_5:(w.heap.size+1+1+1+1)≠(w.heap.size+1+1):=K8.out.ne 3 5 rfl rfl (by omega)
  have ne3_4:(w.heap.size+1+1+1+1)≠(w.heap.size+1+1+1):=K8.out.ne 3 4 rfl rfl (by omega)
  have ne4_5:(w.heap.size+1+1+1)≠(w.heap.size+1+1):=K8.out.ne 4 5 rfl rfl (by omega)
  have ne4_3:(w.heap.size+1+1+1)≠(w.heap.size+1+1+1+1):=K8.out.ne 4 3 rfl rfl (by omega)
  have ne5_4:(w.heap.size+1+1)≠(w.heap.size+1+1+1):=K8.out.ne 5 4 rfl rfl (by omega)
  have ne5_3:(w.heap.size+1+1)≠(w.heap.size+1+1+1+1):=K8.out.ne 5 3 rfl rfl (by omega)
  have ne7_5:w.heap.size≠(w.heap.size+1+1):=K8.out.ne 7 5 rfl rfl (by omega)
  have ne5_7:(w.heap.size+1+1)≠w.heap.size:=K8.out.ne 5 7 rfl rfl (by omega)
  have ne7_4:w.heap.size≠(w.heap.size+1+1+1):=K8.out.ne 7 4 rfl rfl (by omega)
  have ne4_7:(w.heap.size+1+1+1)≠w.heap.size:=K8.out.ne 4 7 rfl rfl (by omega)
  have ne7_3:w.heap.size≠(w.heap.size+1+1+1+1):=K8.out.ne 7 3 rfl rfl (by omega)
  have ne3_7:(w.heap.size+1+1+1+1)≠w.heap.size:=K8.out.ne 3 7 rfl rfl (by omega)
  refine pk_to (fun a w'=>∃(v0 v1 v2 v3 v4 v5 v6 v7 v11 v12 v13 v14 v15 v16 v17 v18 v19 v20 v21 v22 v23 v24 v25 v26 v27 v28 v29 v30 v31 v32 v33 v34 v35 v36 v37 v38 v39 v40 v41 v42 v43:Value),a={ tmps:=#[v0,v1,v2,v3,v4,v5,v6,v7,.pointer (some ⟨w.heap.size+1+1,0,none⟩),.pointer (some ⟨w.heap.size+1+1+1,0,none⟩),.pointer (some ⟨w.heap.size+1+1+1+1,0,none⟩),v11,v12,v13,v14,v15,v16,v17,v18,v19,v20,v21,v22,v23,v24,v25,v26,v27,v28,v29,v30,v31,v32,v33,v34,v35,v36,v37,v38,v39,v40,v41,v42,v43],defers:=[{ target:=.collected D,args:=#[] }] }∧EnvF w' (oF w.heap.size 27 (.slice A3 nk c3) Xk::fF A3 nk Xk::fs) ((b1,#[.slice LA ln lc],22)::((w1.heap.size+1),#[.int .i64 0],32)::(w1.heap.size,#[.int .i64 m,.slice A3 nk c3],24)::((w.heap.size+1+1+1+1),#[.int .i64 0],32)::((w.heap.size+1+1+1),#[.int .i64 m,.slice A3 nk c3],24)::((w.heap.size+1+1),#[.slice A4 n4 c4],25)::((w.heap.size+1),#[.int .i64 M,.slice A n c],24)::(w.heap.size,#[.slice A4 n4 c4],25)::(gs++lbv))∧Below B w w'∧w'.heap[D]? = some (.deferred (some []))) ?_ ?_
  ·go_region
   all_goals first
    | exact⟨_,_,_,_,_,_,_,_,_,_,_,_,_,_,_,_,_,_,_,_,_,_,_,_,_,_,_,_,_,_,_,_,_,_,_,_,_,_,_,_,_,rfl,((Pk.envsetCell1 (j:=0) (((Pk.envsetCell1 (j:=0) K8.out 5 rfl (.slice A4 n4 c4) (cs:=#[.slice A4 n4 c4]) rfl)).setCells 4 rfl [.int .i64 m,.slice A3 nk c3] rfl) 3 rfl (.int .i64 0) (cs:=#[.int .i64 0]) rfl)).drew,((((setCells_below (g:=(w.heap.size+1+1+1)) (by omega) [.int .i64 m,.slice A3 nk c3] 0 _ _ (((G8.out).setCell (p:=⟨(w.heap.size+1+1),0,none⟩) (by simp only;omega) _)))).setCell (p:=⟨(w.heap.size+1+1+1+1),0,none⟩) (by simp only;omega) _)).drew,((Go.heap_setCell_other _ ⟨(w.heap.size+1+1+1+1),0,none⟩ D _ (by simp only;omega)).trans ((setCells_other ((w.heap.size+1+1+1)) [.int .i64 m,.slice A3 nk c3] 0 _ D (by omega)).trans ((Go.heap_setCell_other _ ⟨(w.heap.size+1+1),0,none⟩ D _ (by simp only;omega)).trans HD0.out)))⟩
  rintro a w' ⟨v0,v1,v2,v3,v4,v5,v6,v7,v11,v12,v13,v14,v15,v16,v17,v18,v19,v20,v21,v22,v23,v24,v25,v26,v27,v28,v29,v30,v31,v32,v33,v34,v35,v36,v37,v38,v39,v40,v41,v42,v43,rfl,hE9,hB9,hD9⟩
  have KE:=Lib.hid hE9
  have BE:=Lib.hid hB9
  have HD9:=Lib.hid hD9
  clear hE9 hB9 K8 G8
  go_wp2
  have hgp:=grownBy_putObj' w' D (.deferred none)
  have E4:=Pk.envgrow2 KE.out hgp (fun r e=>by cases e;exact⟨_,HD9.out,rfl⟩) (fun x hx r e hon=>by
   cases e
   rcases List.mem_cons.1 hx with rfl | hx
   ·obtain⟨o2,h7,h8⟩:=OwnF.iscells (KE.out.own (List.mem_cons_self ..)) hon;rw[HD9.out] at h7;cases h7;cases h8
   rcases List.mem_cons.1 hx with rfl | hx
   ·have:=Pk.fF_cells (KE.out.fs (List.mem_cons_of_mem _ (List.mem_cons_self ..))) hon HD9.out;cases this
   ·have:=hfN x hx D hon;omega)
  have B4:=BE.out.grown hgp (Nat.le_trans hBw BE.out.size) (fun r e=>by cases e;omega)
  obtain⟨hXk,hBk,hnk⟩:=HXK.out
  subst hnk hBk hXk
  refine⟨by simp,.inl ⟨_,_,rfl,run_takeDeferred HD9.out,⟨_,res_ccc rfl _ _ _ _ _ _ _ _ _ _ _ _ _ _ rfl (E4.row 5 rfl) rfl (E4.row 4 rfl) rfl (E4.row 3 rfl) Tryz.underlying24 rfl infoc_T Tryz.underlying25 rfl Tryz.underlying32 rfl,_,A3,c3,rfl,B4,lbv,HLB.out,hA3,E4.sub (fun y hy=>hy) ?_⟩⟩⟩
  iterate 8 apply List.Sublist.cons
  exact List.Sublist.refl _
 case stop=>rintro D cd pre W hD _ h hK;exact h.elim
end Go.Proofs.YtahiajeggbpogaaGreatDoor
