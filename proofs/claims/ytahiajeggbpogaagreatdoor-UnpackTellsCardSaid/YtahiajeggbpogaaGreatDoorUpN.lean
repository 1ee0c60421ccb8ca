import Derived.Test.YtahiajeggbpogaaGreatDoorUpK
import Derived.Test.YtahiajeggbpogaaGreatDoorGJoint
set_option maxRecDepth 100000
set_option maxHeartbeats 4000000
namespace Go.Proofs.YtahiajeggbpogaaGreatDoor
open Go.RowKit Go.Shelf Px Tx Tb Up
set_option linter.unusedVariables false
set_option linter.unusedSimpArgs false
attribute [local go_sem] Oper.semAt_some
theorem u_fields(g:Nat)(w:World):Calls Tryz.prog 41 #[.pointer (some ⟨g,0,none⟩)] w fun e w'=>
   e = .returned (.func (.func 62) #[] #[.pointer (some ⟨w.heap.size,0,none⟩)])∧w.alloc (.cells #[.pointer (some ⟨g,0,none⟩)] 55)=w':=by
 go_enter Tryz.func41,Tryz.ntmps41
 go_wp2
 go_ret
 exact⟨rfl,rfl⟩
namespace Up
def fE(x:Fd×Int):Array Value:=#[.agg #[.string x.1.1,.string x.1.2],.int .i64 x.2]
def aft(s:Sta):Nat→Sta
 | 0=>s
 | k+1=>qS (aft s k)
theorem owR_le(xs:List Fd)(ls:List UInt8)(v:Nat):(owR xs ls v).length≤ls.length:=by
 have h1:=t_le ls
 have h2:=t_le (tRs ls)
 unfold owR
 split
 ·split<;>omega
 ·split<;>omega
theorem qS_less{s:Sta}(h:s.ls≠[]):(qS s).ls.length<s.ls.length:=by
 have h1:=nR_less (k:=kb (hd s.ls)) (by have:=kb_bd (hd s.ls);omega) h
 have h2:=owR_le s.xs (qR s) (qV s)
 unfold qS
 unfold qR at *
 split
 ·exact h1
 ·split
  ·exact h1
  ·split
   ·exact h1
   ·split<;>(simp only;omega)
def Acc(g K B1:Nat)(most:Int)(s:Sta)(W:World)(Kn:Sta→World→Prop):Prop:=
 ∃fs gs i A n c LA ln lc,Opn W fs gs i g K most A n c LA ln lc s∧kF K∈fs∧rwF∈fs∧stF∈fs∧(∃j:Nat,gs[j]? = some (B1,#[.pointer (some ⟨g,0,none⟩)],55)∧j≠i)∧∀s' W',W.grownBy W' (some g)→Cls W' fs gs i g K most s'→Kn s' W'
theorem Cls.on{w w':World}{fs:List Fact}{gs:List Bx}{i g K:Nat}{most:Int}{s:Sta}(h:Cls w fs gs i g K most s)(hb:Below w.heap.size w w'):Cls w' fs gs i g K most s:=by
 obtain⟨A,n,c,LA,ln,lc,h⟩:=h
 exact⟨A,n,c,LA,ln,lc,h.on hb⟩
def okS(s0:Sta)(k:Nat):Prop:=∀j,j<k→(aft s0 j).ls≠[]∧qE (aft s0 j)=0
end Up
theorem fields1_in(k:Nat)(hk:1≤k)(l g K B1:Nat)(most:Int)(s0:Sta)(I:List (Fd×Int)→Sta→World→Prop)(J:List (Fd×Int)→Sta→World→Prop)(X:List (Fd×Int)→World→Prop)(W:World)
  (hJI : ∀pre s A,J pre s A→I pre s A) (hJB : ∀pre s s' A B,J pre s A→Mv A B→I pre s' B→J pre s' B)
  (hI : ∀pre W,I pre (aft s0 pre.length) W→okS s0 pre.length→Acc g K B1 most (aft s0 pre.length) W (fun s' W'=>I pre s' W'))
  (hB : ∀k,okS s0 k→(aft s0 k).ls.length≤10000∧full (aft s0 k).xs≤20000)
  (hY : ∀pre s x s' W1,J pre s' W1→(s=aft s0 pre.length∧okS s0 pre.length∧s.ls≠[]∧x=(qF s,qE s)∧s'=qS s)→YieldAt Fence.wide (k-1) Tryz.prog l (fE x) W1 fun e W'=>(e = .returned (.bool true)∧J (pre++[x]) s' W')∨(e = .returned (.bool false)∧X (pre++[x]) W'))
  (h0:J [] s0 W) :
  CallsIn Fence.wide k Tryz.prog 62 #[.func (.yield l) #[] #[],.pointer (some ⟨B1,0,none⟩)] W fun e W'=>(∃v,e = .returned v)∧((∃xs s,(s=aft s0 xs.length∧((okS s0 xs.length∧s.ls=[])∨∃q,xs.length=q+1∧okS s0 q∧(aft s0 q).ls≠[]∧qE (aft s0 q)≠0))∧J xs s W')∨(∃xs,True∧X xs W')):=by
 have HY:=Lib.hid hY
 have HJI:=Lib.hid hJI
 have HJB:=Lib.hid hJB
 have HI:=Lib.hid hI
 have HBD:=Lib.hid hB
 clear hY hJI hJB hI hB
 refine callsIn_of_wp Tryz.func62 rfl trivial ?_ rfl
 simp only[Tryz.ntmps62,List.size_toArray,List.length_cons,List.length_nil,Nat.reduceAdd,Nat.reduceSub,Array.replicate_succ,Array.replicate_zero,List.push_toArray,List.append_toArray,List.nil_append,List.cons_append]
 gi_wp2
 gi_loopw [3,4] (fun _ _ wr=>∃pre:List (Fd×Int),okS s0 pre.length∧J pre (aft s0 pre.length) wr) (fun _ _ wr=>lenAt wr g)
 case atStart=>exact⟨[],fun j hj=>absurd hj (by simp),h0⟩
 case round=>
  obtain⟨pre,hok,hJ⟩:=hrel
  obtain⟨s,hs⟩ : ∃s,aft s0 pre.length=s:=⟨_,rfl⟩
  obtain⟨hb1,hb2⟩:=HBD.out _ hok
  obtain⟨fs,gs,i,A,n,c,LA,ln,lc,hO,hKF,hRF,hSF,⟨j,hj,hji⟩,hback⟩:=HI.out pre wr (HJI.out _ _ _ hJ) hok
  rw[hs] at hJ hO hb1 hb2
  have cB:=cells1_row (hO.e.row j hj)
  have cg:wr.cell? ⟨g,4,none⟩=some (.slice LA ln lc):=by rw[cell_of_row wr g 4 _ _ (0,0) hO.row];rfl
  have hlen:=hO.len
  have HJ:=Lib.hid hJ
  have HS:=Lib.hid hs
  have HOK:=Lib.hid hok
  have HBK:=Lib.hid hback
  have HO:=Lib.hid hO
  have HM:=Lib.hid hO.lenAt
  clear hJ hs hok hback hO h0
  by_cases hl:s.ls=[]
  ·have hd1:decide (0<ln)=false:=decide_eq_false (by rw[hl] at hlen;simp at hlen;omega)
   gi_wp2
   refine bodyPost_end (results_none rfl _ _ _) rfl ⟨⟨_,rfl⟩,.inl ⟨pre,s,⟨HS.out.symm,.inl ⟨HOK.out,hl⟩⟩,HJ.out⟩⟩
  ·have hd1:decide (0<ln)=true:=decide_eq_true (by have:=List.length_pos_iff.2 hl;omega)
   have HF:=Lib.hid (u_field wr HO.out hKF hRF hSF hl (by omega) hb2)
   unfold fdv at HF
   have HLS:=Lib.hid hl
   have hless:=Lib.hid (qS_less hl)
   have hnxt : ∀w4,J (pre++[(qF s,qE s)]) (qS s) w4→qE s=0→okS s0 (pre++[(qF s,qE s)]).length∧J (pre++[(qF s,qE s)]) (aft s0 (pre++[(qF s,qE s)]).length) w4∧lenAt w4 g<lenAt wr g:=fun w4 hJ4 hE=>by
    have e1:(pre++[(qF s,qE s)]).length=pre.length+1:=by simp
    have e2:aft s0 (pre++[(qF s,qE s)]).length=qS s:=by rw[e1];show qS (aft s0 pre.length)=_;rw[HS.out]
    have hk4:okS s0 (pre++[(qF s,qE s)]).length:=fun j hj=>by
     rw[e1] at hj
     rcases Nat.lt_or_ge j pre.length with h | h
     ·exact HOK.out j h
     ·obtain rfl:j=pre.length:=by omega
      rw[HS.out]
      exact⟨HLS.out,hE⟩
    refine⟨hk4,by rw[e2];exact hJ4,?_⟩
    obtain⟨fs',gs',i',A',n',c',LA',ln',lc',hO',_⟩:=HI.out (pre++[(qF s,qE s)]) w4 (by rw[e2];exact HJI.out _ _ _ hJ4) hk4
    have h1:=hO'.lenAt
    have h2:=hO'.len
    rw[e2] at h2
    have h3:=hless.out
    have h4:=HM.out
    omega
   have HNX:=Lib.hid hnxt
   clear hl hlen hnxt
   by_cases hE:qE s=0
   ·have hq:(qE s != 0)=false:=by rw[hE];rfl
    have HE0:=Lib.hid hE
    clear hE
    gi_wp2_with (first
     | (refine⟨trivial,?_⟩;gi_at_call 63;(with_reducible refine(callsIn_wide.2 HF.out).mono ?_);rintro e w1 ⟨rfl,hg,hk⟩;have hg2:=gb_alloc hg (.cells #[.string (qF s).1,.string (qF s).2] 27);have hJ2:=HJB.out _ _ _ _ _ HJ.out (Mv.gb hg2 HO.out.row) (HBK.out _ _ hg2 (hk.on ((Below.refl _ w1).alloc (Nat.le_refl _) _)));obtain⟨fn,tmps,assign,body,hy,hR⟩:=HY.out pre s (qF s,qE s) (qS s) _ hJ2 ⟨HS.out.symm,HOK.out,HLS.out,rfl,rfl⟩;have HRR:=Lib.hid hR;unfold fE at hy;clear hR hg hk hg2 hJ2)
     | (refine⟨trivial,?_⟩;go_at_K))
    refine HRR.out.mono ?_
    rintro e w4 (⟨rfl,hJ4⟩ | ⟨rfl,hX4⟩)
    ·obtain⟨n1,n2,n3⟩:=HNX.out _ hJ4 HE0.out
     have HN1:=Lib.hid n1
     have HN2:=Lib.hid n2
     have HN3:=Lib.hid n3
     clear n1 n2 n3 hJ4
     gi_wp2
     go_roundw
     case rel=>exact⟨_,HN1.out,HN2.out⟩
     case measure=>exact HN3.out
    ·gi_wp2
     exact bodyPost_ret (results_none rfl _ _ _) rfl ⟨⟨_,rfl⟩,.inr ⟨_,trivial,hX4⟩⟩
   ·have hq:(qE s != 0)=true:=by rw[bne_iff_ne];exact hE
    gi_wp2_with (first
     | (refine⟨trivial,?_⟩;gi_at_call 63;(with_reducible refine(callsIn_wide.2 HF.out).mono ?_);rintro e w1 ⟨rfl,hg,hk⟩;have hg2:=gb_alloc hg (.cells #[.string (qF s).1,.string (qF s).2] 27);have hJ2:=HJB.out _ _ _ _ _ HJ.out (Mv.gb hg2 HO.out.row) (HBK.out _ _ hg2 (hk.on ((Below.refl _ w1).alloc (Nat.le_refl _) _)));obtain⟨fn,tmps,assign,body,hy,hR⟩:=HY.out pre s (qF s,qE s) (qS s) _ hJ2 ⟨HS.out.symm,HOK.out,HLS.out,rfl,rfl⟩;have HRR:=Lib.hid hR;unfold fE at hy;clear hR hg hk hg2 hJ2)
     | (refine⟨trivial,?_⟩;go_at_K))
    refine HRR.out.mono ?_
    rintro e w4 (⟨rfl,hJ4⟩ | ⟨rfl,hX4⟩)
    ·have HJ4:=Lib.hid hJ4
     clear hJ4
     gi_wp2
     refine bodyPost_ret (results_none rfl _ _ _) rfl ⟨⟨_,rfl⟩,.inl ⟨_,_,⟨?_,.inr ⟨pre.length,by simp,HOK.out,by rw[HS.out];exact HLS.out,by rw[HS.out];exact hE⟩⟩,HJ4.out⟩⟩
     rw[List.length_append,List.length_singleton]
     show qS s=qS (aft s0 pre.length)
     rw[HS.out]
    ·gi_wp2
     exact bodyPost_ret (results_none rfl _ _ _) rfl ⟨⟨_,rfl⟩,.inr ⟨_,trivial,hX4⟩⟩
end Go.Proofs.YtahiajeggbpogaaGreatDoor
namespace Go.Proofs.YtahiajeggbpogaaGreatDoor.Up
open Go.RowKit Px Tx Tb
set_option linter.unusedVariables false
set_option linter.unusedSimpArgs false
def FL(s:Sta)(k:Nat):List Fd:=(List.range k).map fun j=>qF (aft s j)
theorem FL_succ(s:Sta)(k:Nat):FL s (k+1)=FL s k++[qF (aft s k)]:=by simp[FL,List.range_succ]
theorem FL_len(s:Sta)(k:Nat):(FL s k).length=k:=by simp[FL]
theorem aft_shift(s:Sta) : ∀k,aft s (k+1)=aft (qS s) k
 | 0=>rfl
 | k+1=>by
  show qS (aft s (k+1))=qS (aft (qS s) k)
  rw[aft_shift s k]
theorem FL_shift(s:Sta)(k:Nat):FL s (k+1)=qF s::FL (qS s) k:=by
 unfold FL
 rw[List.range_succ_eq_map,List.map_cons,List.map_map]
 congr 1
 apply List.map_congr_left
 intro j _
 show qF (aft s (j+1))=_
 rw[aft_shift]
theorem okS_shift{s:Sta}{k:Nat}(h:okS s (k+1)):s.ls≠[]∧qE s=0∧okS (qS s) k:=by
 have h0:=h 0 (by omega)
 refine⟨h0.1,h0.2,fun j hj=>?_⟩
 have:=h (j+1) (by omega)
 rwa [aft_shift] at this
theorem okS_less{s:Sta}{k:Nat}(h:okS s k):(aft s k).ls.length+k≤s.ls.length:=by
 induction k with
 | zero=>exact Nat.le_refl _
 | succ k ih=>
  have h1:=ih (fun j hj=>h j (by omega))
  have h2:=qS_less (h k (by omega)).1
  show(qS (aft s k)).ls.length+(k+1)≤_
  omega
theorem rn_end : ∀(k f:Nat) (s:Sta),s.ls.length≤f→okS s k→(aft s k).ls=[]→rn f s=(0,FL s k,aft s k)
 | 0,f,s,hf,_,he=>by
  cases f with
  | zero=>rfl
  | succ f=>unfold rn;rw[if_pos (show s.ls=[] from he)];rfl
 | k+1,f,s,hf,hok,he=>by
  obtain⟨h1,h2,h3⟩:=okS_shift hok
  have hl:=qS_less h1
  cases f with
  | zero=>have:=List.length_pos_iff.2 h1;omega
  | succ f=>
   rw[aft_shift] at he
   have:=rn_end k f (qS s) (by omega) h3 he
   unfold rn
   rw[if_neg h1,if_neg (by omega),this,FL_shift,aft_shift]
theorem rn_bad : ∀(k f:Nat) (s:Sta),s.ls.length≤f→okS s k→(aft s k).ls≠[]→qE (aft s k)≠0→rn f s=(qE (aft s k),FL s k,qS (aft s k))
 | 0,f,s,hf,_,hl,he=>by
  cases f with
  | zero=>have:=List.length_pos_iff.2 (show s.ls≠[] from hl);omega
  | succ f=>unfold rn;rw[if_neg (show ¬s.ls=[] from hl),if_pos (show qE s≠0 from he)];rfl
 | k+1,f,s,hf,hok,hl,he=>by
  obtain⟨h1,h2,h3⟩:=okS_shift hok
  have hls:=qS_less h1
  cases f with
  | zero=>have:=List.length_pos_iff.2 h1;omega
  | succ f=>
   rw[aft_shift] at hl he
   have:=rn_bad k f (qS s) (by omega) h3 hl he
   unfold rn
   rw[if_neg h1,if_neg (by omega),this,FL_shift,aft_shift]
def rt(s:Sta):Prop:=rightB s.M s.xs=true
theorem rt_bd{s:Sta}(h:rt s):0≤s.M∧s.M≤4096∧(full s.xs:Int)≤s.M:=by
 unfold rt rightB okB at h
 simp only[Bool.and_eq_true,decide_eq_true_eq] at h
 omega
theorem rt_of{M:Int}{xs:List Fd}{ls:List UInt8}(h1:0≤M)(h2:M≤4096)(h3:(full xs:Int)≤M):rt ⟨M,xs,ls⟩:=by
 unfold rt rightB okB
 rw[decide_eq_true h1,decide_eq_true h2,decide_eq_true h3]
 rfl
theorem rt_add{s:Sta}(h:rt s)(f:Fd):addM s.M s.xs=s.M∧addE s.M s.xs=0∧addL s.M s.xs f=keep s.M (f::s.xs):=by
 unfold rt at h
 exact⟨by unfold addM;rw[h];rfl,by unfold addE;rw[h];rfl,by unfold addL;rw[h];rfl⟩
theorem qS_rt{s:Sta}(h:rt s):rt (qS s):=by
 have hb:=rt_bd h
 have h0 : ∀ls,rt ⟨s.M,s.xs,ls⟩:=fun ls=>rt_of hb.1 hb.2.1 hb.2.2
 unfold qS
 split
 ·exact h0 _
 ·split
  ·exact h0 _
  ·split
   ·exact h0 _
   ·split
    ·obtain⟨e1,_,e3⟩:=rt_add h (owF s.xs (qR s) (qV s))
     rw[e1,e3]
     exact rt_of hb.1 hb.2.1 (keep_full _ hb.1)
    ·exact h0 _
theorem aft_rt{s:Sta}(h:rt s) : ∀k,rt (aft s k)
 | 0=>h
 | k+1=>qS_rt (aft_rt h k)
theorem zS_rt{most:Int}(hm:most≤4096){s:Sta}(h:rt s):rt (zS most s):=by
 have hb:=rt_bd h
 unfold zS
 split
 ·exact rt_of hb.1 hb.2.1 hb.2.2
 ·split
  ·exact rt_of hb.1 hb.2.1 hb.2.2
  ·have hr:resB s.M s.xs (qV s)=true:=by
    unfold resB
    unfold rt at h
    rw[h]
    unfold okB
    rw[decide_eq_true (by omega),decide_eq_true (by omega)]
    rfl
   unfold resM resL
   rw[hr]
   exact rt_of (by simp only[if_true];omega) (by simp only[if_true];omega) (by simp only[if_true];exact keep_full _ (by omega))
theorem zs_rt{most:Int}(hm:most≤4096) : ∀(k:Nat) (s:Sta),rt s→rt (zs most k s).2
 | 0,s,h=>h
 | k+1,s,h=>by
  unfold zs
  split
  ·exact h
  ·split
   ·exact zS_rt hm h
   ·exact zs_rt hm k _ (zS_rt hm h)
theorem zs_less{most:Int} : ∀(k:Nat) (s:Sta),(zs most k s).2.ls.length≤s.ls.length
 | 0,s=>Nat.le_refl _
 | k+1,s=>by
  unfold zs
  by_cases g:s.ls=[]∨kk (hd s.ls)≠3
  ·rw[if_pos g];exact Nat.le_refl _
  ·rw[if_neg g]
   have hl:=zS_less (most:=most) (s:=s) (fun h=>g (.inl h))
   split
   ·exact Nat.le_of_lt hl
   ·have:=zs_less (most:=most) k (zS most s);omega
theorem qF_sz{s:Sta}(h:rt s)(hl:s.ls.length≤10000):sz (qF s)≤100000:=by
 have hb:=rt_bd h
 have h1:=own_sz s.xs (qR s) (qV s) (by omega) (by have:=n_le s.ls (kb (hd s.ls));unfold qR;omega)
 have h2:=atV_sz s.xs (qV s)
 unfold qF
 split
 ·simp[sz,fd0,ByteArray.size]
 ·split
  ·omega
  ·split
   ·simp[sz,fd0,ByteArray.size]
   ·exact h1
theorem FL_full{s:Sta}(h:rt s)(hl:s.ls.length≤10000) : ∀k,okS s k→full (FL s k)≤100000*k
 | 0,_=>by simp[FL,full]
 | k+1,hok=>by
  have h1:=FL_full h hl k (fun j hj=>hok j (by omega))
  have h2:=okS_less (k:=k) (fun j hj=>hok j (by omega))
  have h3:=qF_sz (aft_rt h k) (by omega)
  rw[FL_succ,full_append]
  simp only[full]
  omega
theorem keep_snoc{M:Nat}{L:List Fd}{x:Fd}:keep M (L++[x])=if M<full (L++[x]) then keep M L else L++[x]:=by
 split
 ·rename_i h
  have h2:fit M (L++[x])=fit M L:=by
   unfold fit
   rw[List.length_append,List.length_singleton]
   rw[show fits (M:Int) (L++[x]) (L.length+1)=fits (M:Int) (L++[x]) L.length from if_neg (by rw[List.take_of_length_le (by simp)];omega)]
   have : ∀k,k≤L.length→fits M (L++[x]) k=fits M L k:=by
    intro k hk
    induction k with
    | zero=>rfl
    | succ k ih=>
     unfold fits
     rw[List.take_append_of_le_length hk,ih (by omega)]
   exact this _ (Nat.le_refl _)
  unfold keep
  rw[h2,List.take_append_of_le_length (fit_le _ _)]
 ·exact keep_all (by omega)
end Go.Proofs.YtahiajeggbpogaaGreatDoor.Up
