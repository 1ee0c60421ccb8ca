import Derived.Test.YtahiajeggbpogaaGreatDoorUpA
import Derived.Test.YtahiajeggbpogaaGreatDoorUpK
namespace Go.Proofs.YtahiajeggbpogaaGreatDoor
open Go.RowKit
set_option linter.unusedVariables false
def Mv(A B:World):Prop:=∀(l:Nat) (o:Obj),A.heap[l]? = some o→o.isCells=false→B.heap[l]? = some o
theorem Mv.refl(A:World):Mv A A:=fun _ _ h _=>h
theorem Mv.trans{A B C:World}(h:Mv A B)(k:Mv B C):Mv A C:=fun l o h1 h2=>k l o (h l o h1 h2) h2
theorem Mv.below{A B:World}(h:Below A.heap.size A B):Mv A B:=fun l o h1 _=>(h.block l (Array.getElem?_eq_some_iff.1 h1).1).trans h1
theorem Mv.gb{A B:World}{g:Nat}(h:A.grownBy B (some g)){cs:Array Value}{t:TypeId}(hg:A.heap[g]? = some (.cells cs t)):Mv A B:=fun l o h1 h2=>
 (h.block l (Array.getElem?_eq_some_iff.1 h1).1 (fun e=>by cases e;rw[hg] at h1;cases h1;cases h2)).trans h1
end Go.Proofs.YtahiajeggbpogaaGreatDoor
set_option maxRecDepth 100000
set_option maxHeartbeats 4000000
namespace Go.Proofs.YtahiajeggbpogaaGreatDoor
open Go.RowKit Go.Shelf Px Tx Tb Up
set_option linter.unusedVariables false
set_option linter.unusedSimpArgs false
attribute [local go_sem] Oper.semAt_some
namespace Up
def aft(s:Sta):Nat→Sta
 | 0=>s
 | k+1=>qS (aft s k)
theorem owR_le(xs:List Fd)(ls:List UInt8)(v:Nat):(owR xs ls v).length≤ls.length:=by
 have h1:=t_le ls
 have h2:=t_le (tRs ls)
 unfold owR
 split
 ·split<;>omega
 ·split<;>omega
theorem qS_less{s:Sta}(h:s.ls≠[]):(qS s).ls.length<s.ls.length:=by
 have h1:=nR_less (k:=kb (hd s.ls)) (by have:=kb_bd (hd s.ls);omega) h
 have h2:=owR_le s.xs (qR s) (qV s)
 unfold qS
 unfold qR at *
 split
 ·exact h1
 ·split
  ·exact h1
  ·split
   ·exact h1
   ·split<;>(simp only;omega)
def Acc(g K B1:Nat)(most:Int)(s:Sta)(W:World)(Kn:Sta→World→Prop):Prop:=
 ∃fs gs i A n c LA ln lc,Opn W fs gs i g K most A n c LA ln lc s∧kF K∈fs∧rwF∈fs∧stF∈fs∧(∃j:Nat,gs[j]? = some (B1,#[.pointer (some ⟨g,0,none⟩)],55)∧j≠i)∧∀s' W',W.grownBy W' (some g)→Cls W' fs gs i g K most s'→Kn s' W'
theorem Cls.on{w w':World}{fs:List Fact}{gs:List Bx}{i g K:Nat}{most:Int}{s:Sta}(h:Cls w fs gs i g K most s)(hb:Below w.heap.size w w'):Cls w' fs gs i g K most s:=by
 obtain⟨A,n,c,LA,ln,lc,h⟩:=h
 exact⟨A,n,c,LA,ln,lc,h.on hb⟩
def okS(s0:Sta)(k:Nat):Prop:=∀j,j<k→(aft s0 j).ls≠[]∧qE (aft s0 j)=0
end Up
end Go.Proofs.YtahiajeggbpogaaGreatDoor
namespace Go.Proofs.YtahiajeggbpogaaGreatDoor.Up
open Go.RowKit Px Tx Tb
set_option linter.unusedVariables false
set_option linter.unusedSimpArgs false
def FL(s:Sta)(k:Nat):List Fd:=(List.range k).map fun j=>qF (aft s j)
theorem aft_shift(s:Sta) : ∀k,aft s (k+1)=aft (qS s) k
 | 0=>rfl
 | k+1=>by
  show qS (aft s (k+1))=qS (aft (qS s) k)
  rw[aft_shift s k]
theorem FL_shift(s:Sta)(k:Nat):FL s (k+1)=qF s::FL (qS s) k:=by
 unfold FL
 rw[List.range_succ_eq_map,List.map_cons,List.map_map]
 congr 1
 apply List.map_congr_left
 intro j _
 show qF (aft s (j+1))=_
 rw[aft_shift]
theorem okS_shift{s:Sta}{k:Nat}(h:okS s (k+1)):s.ls≠[]∧qE s=0∧okS (qS s) k:=by
 have h0:=h 0 (by omega)
 refine⟨h0.1,h0.2,fun j hj=>?_⟩
 have:=h (j+1) (by omega)
 rwa [aft_shift] at this
theorem rn_end : ∀(k f:Nat) (s:Sta),s.ls.length≤f→okS s k→(aft s k).ls=[]→rn f s=(0,FL s k,aft s k)
 | 0,f,s,hf,_,he=>by
  cases f with
  | zero=>rfl
  | succ f=>unfold rn;rw[if_pos (show s.ls=[] from he)];rfl
 | k+1,f,s,hf,hok,he=>by
  obtain⟨h1,h2,h3⟩:=okS_shift hok
  have hl:=qS_less h1
  cases f with
  | zero=>have:=List.length_pos_iff.2 h1;omega
  | succ f=>
   rw[aft_shift] at he
   have:=rn_end k f (qS s) (by omega) h3 he
   unfold rn
   rw[if_neg h1,if_neg (by omega),this,FL_shift,aft_shift]
theorem rn_bad : ∀(k f:Nat) (s:Sta),s.ls.length≤f→okS s k→(aft s k).ls≠[]→qE (aft s k)≠0→rn f s=(qE (aft s k),FL s k,qS (aft s k))
 | 0,f,s,hf,_,hl,he=>by
  cases f with
  | zero=>have:=List.length_pos_iff.2 (show s.ls≠[] from hl);omega
  | succ f=>unfold rn;rw[if_neg (show ¬s.ls=[] from hl),if_pos (show qE s≠0 from he)];rfl
 | k+1,f,s,hf,hok,hl,he=>by
  obtain⟨h1,h2,h3⟩:=okS_shift hok
  have hls:=qS_less h1
  cases f with
  | zero=>have:=List.length_pos_iff.2 h1;omega
  | succ f=>
   rw[aft_shift] at hl he
   have:=rn_bad k f (qS s) (by omega) h3 hl he
   unfold rn
   rw[if_neg h1,if_neg (by omega),this,FL_shift,aft_shift]
def rt(s:Sta):Prop:=rightB s.M s.xs=true
theorem rt_bd{s:Sta}(h:rt s):0≤s.M∧s.M≤4096∧(full s.xs:Int)≤s.M:=by
 unfold rt rightB okB at h
 simp only[Bool.and_eq_true,decide_eq_true_eq] at h
 omega
theorem rt_of{M:Int}{xs:List Fd}{ls:List UInt8}(h1:0≤M)(h2:M≤4096)(h3:(full xs:Int)≤M):rt ⟨M,xs,ls⟩:=by
 unfold rt rightB okB
 rw[decide_eq_true h1,decide_eq_true h2,decide_eq_true h3]
 rfl
theorem rt_add{s:Sta}(h:rt s)(f:Fd):addM s.M s.xs=s.M∧addE s.M s.xs=0∧addL s.M s.xs f=keep s.M (f::s.xs):=by
 unfold rt at h
 exact⟨by unfold addM;rw[h];rfl,by unfold addE;rw[h];rfl,by unfold addL;rw[h];rfl⟩
theorem qS_rt{s:Sta}(h:rt s):rt (qS s):=by
 have hb:=rt_bd h
 have h0 : ∀ls,rt ⟨s.M,s.xs,ls⟩:=fun ls=>rt_of hb.1 hb.2.1 hb.2.2
 unfold qS
 split
 ·exact h0 _
 ·split
  ·exact h0 _
  ·split
   ·exact h0 _
   ·split
    ·obtain⟨e1,_,e3⟩:=rt_add h (owF s.xs (qR s) (qV s))
     rw[e1,e3]
     exact rt_of hb.1 hb.2.1 (keep_full _ hb.1)
    ·exact h0 _
theorem zS_rt{most:Int}(hm:most≤4096){s:Sta}(h:rt s):rt (zS most s):=by
 have hb:=rt_bd h
 unfold zS
 split
 ·exact rt_of hb.1 hb.2.1 hb.2.2
 ·split
  ·exact rt_of hb.1 hb.2.1 hb.2.2
  ·have hr:resB s.M s.xs (qV s)=true:=by
    unfold resB
    unfold rt at h
    rw[h]
    unfold okB
    rw[decide_eq_true (by omega),decide_eq_true (by omega)]
    rfl
   unfold resM resL
   rw[hr]
   exact rt_of (by simp only[if_true];omega) (by simp only[if_true];omega) (by simp only[if_true];exact keep_full _ (by omega))
theorem zs_less{most:Int} : ∀(k:Nat) (s:Sta),(zs most k s).2.ls.length≤s.ls.length
 | 0,s=>Nat.le_refl _
 | k+1,s=>by
  unfold zs
  by_cases g:s.ls=[]∨kk (hd s.ls)≠3
  ·rw[if_pos g];exact Nat.le_refl _
  ·rw[if_neg g]
   have hl:=zS_less (most:=most) (s:=s) (fun h=>g (.inl h))
   split
   ·exact Nat.le_of_lt hl
   ·have:=zs_less (most:=most) k (zS most s);omega
theorem qF_sz{s:Sta}(h:rt s)(hl:s.ls.length≤10000):sz (qF s)≤100000:=by
 have hb:=rt_bd h
 have h1:=own_sz s.xs (qR s) (qV s) (by omega) (by have:=n_le s.ls (kb (hd s.ls));unfold qR;omega)
 have h2:=atV_sz s.xs (qV s)
 unfold qF
 split
 ·simp[sz,fd0,ByteArray.size]
 ·split
  ·omega
  ·split
   ·simp[sz,fd0,ByteArray.size]
   ·exact h1
theorem keep_snoc{M:Nat}{L:List Fd}{x:Fd}:keep M (L++[x])=if M<full (L++[x]) then keep M L else L++[x]:=by
 split
 ·rename_i h
  have h2:fit M (L++[x])=fit M L:=by
   unfold fit
   rw[List.length_append,List.length_singleton]
   rw[show fits (M:Int) (L++[x]) (L.length+1)=fits (M:Int) (L++[x]) L.length from if_neg (by rw[List.take_of_length_le (by simp)];omega)]
   have : ∀k,k≤L.length→fits M (L++[x]) k=fits M L k:=by
    intro k hk
    induction k with
    | zero=>rfl
    | succ k ih=>
     unfold fits
     rw[List.take_append_of_le_length hk,ih (by omega)]
   exact this _ (Nat.le_refl _)
  unfold keep
  rw[h2,List.take_append_of_le_length (fit_le _ _)]
 ·exact keep_all (by omega)
end Go.Proofs.YtahiajeggbpogaaGreatDoor.Up
set_option maxRecDepth 100000
set_option maxHeartbeats 4000000
namespace Go.Proofs.YtahiajeggbpogaaGreatDoor
open Go.RowKit Go.Shelf Px Tx Tb Up
set_option linter.unusedVariables false
set_option linter.unusedSimpArgs false
attribute [local go_sem] Oper.semAt_some
theorem infoc_U:(Tryz.prog.info? 31).map (·.size)=some 4:=by kernel_rfl
end Go.Proofs.YtahiajeggbpogaaGreatDoor
