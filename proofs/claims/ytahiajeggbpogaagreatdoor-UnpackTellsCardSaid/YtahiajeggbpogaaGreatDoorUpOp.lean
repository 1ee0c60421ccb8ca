import Derived.Test.YtahiajeggbpogaaGreatDoorUpOm
import Derived.Test.YtahiajeggbpogaaGreatDoorUpR
namespace Go.Proofs.YtahiajeggbpogaaGreatDoor.Up
open Go.RowKit Px Tx Tb
set_option linter.unusedVariables false
set_option linter.unusedSimpArgs false
theorem res_ok{M:Int}{xs:List Fd}{m:Int}(h:rightB M xs=true)(h0:0≤m)(h1:m≤4096):resE M xs m=0∧resM M xs m=m∧resL M xs m=keep m xs∧rightB m (keep m xs)=true:=by
 have hb:resB M xs m=true:=by unfold resB okB;rw[h,decide_eq_true h0,decide_eq_true h1];rfl
 refine⟨by unfold resE;rw[if_pos hb],by unfold resM;rw[if_pos hb],by unfold resL;rw[if_pos hb],?_⟩
 unfold rightB okB
 rw[decide_eq_true h0,decide_eq_true h1,decide_eq_true (keep_full _ h0)]
 rfl
end Go.Proofs.YtahiajeggbpogaaGreatDoor.Up
namespace Go.Proofs.YtahiajeggbpogaaGreatDoor.Up
open Go.RowKit Px Tx Tb
set_option linter.unusedVariables false
set_option linter.unusedSimpArgs false
theorem bE_parts{M most:Int}{xs:List Fd}{ls:List UInt8}(h:okA M most xs=true):bE M most xs ls=0↔(bZ most ⟨M,xs,ls⟩).1=0∧(bN most ⟨M,xs,ls⟩).1=0:=by
 unfold bE
 rw[if_neg (by rw[h];exact Bool.noConfusion)]
 by_cases hz:(bZ most ⟨M,xs,ls⟩).1≠0
 ·rw[if_pos hz]
  exact⟨fun g=>absurd g hz,fun g=>absurd g.1 hz⟩
 ·rw[if_neg hz]
  exact⟨fun g=>⟨Classical.not_not.1 hz,g⟩,fun g=>g.2⟩
theorem rn_fuel : ∀(f f':Nat) (s:Sta),s.ls.length≤f→s.ls.length≤f'→rn f s=rn f' s
 | 0,f',s,h1,h2=>by
  have hl:s.ls=[]:=List.eq_nil_of_length_eq_zero (by omega)
  cases f' with
  | zero=>rfl
  | succ f'=>unfold rn;rw[if_pos hl]
 | f+1,0,s,h1,h2=>by
  have hl:s.ls=[]:=List.eq_nil_of_length_eq_zero (by omega)
  unfold rn
  rw[if_pos hl]
 | f+1,f'+1,s,h1,h2=>by
  unfold rn
  by_cases hl:s.ls=[]
  ·rw[if_pos hl,if_pos hl]
  ·have hls:=qS_less hl
   rw[if_neg hl,if_neg hl,rn_fuel f f' (qS s) (by omega) (by omega)]
end Go.Proofs.YtahiajeggbpogaaGreatDoor.Up
namespace Go.Proofs.YtahiajeggbpogaaGreatDoor.Up
open Go.RowKit Px Tx Tb
set_option linter.unusedVariables false
set_option linter.unusedSimpArgs false
theorem b_none{M most:Int}{xs:List Fd}{ls:List UInt8}(h:bE M most xs ls≠0):bL M most xs ls=[]∧bG M most xs ls=false∧bM M most xs ls=0∧bX M most xs ls=[]:=by
 refine⟨if_neg h,?_,if_neg h,if_neg h⟩
 unfold bG
 rw[decide_eq_false h]
 rfl
theorem bL_full{M most:Int}{xs:List Fd}{ls:List UInt8}:full (bL M most xs ls)≤2000:=by
 unfold bL
 split
 ·have:=keep_full (M:=2000) (bAll M most xs ls) (by omega);omega
 ·simp[full]
theorem b_right{M most:Int}{xs:List Fd}{ls:List UInt8}(h:bE M most xs ls=0):rightB (bM M most xs ls) (bX M most xs ls)=true:=by
 have ho:okA M most xs=true:=by
  cases hh:okA M most xs with
  | true=>rfl
  | false=>unfold bE at h;rw[if_pos hh] at h;omega
 obtain⟨z0,n0⟩:=(bE_parts ho).1 h
 have ho2:=ho
 unfold okA at ho2
 rw[Bool.and_eq_true] at ho2
 have hm:most≤4096:=by have:=ho2.2;unfold okB at this;rw[Bool.and_eq_true] at this;exact of_decide_eq_true this.2
 have r0:rt (bZ most ⟨M,xs,ls⟩).2:=zs_rt hm _ _ ho2.1
 have : ∀(f:Nat) (s:Sta),rt s→(rn f s).1=0→rt (rn f s).2.2:=by
  intro f
  induction f with
  | zero=>intro s hs _;exact hs
  | succ f ih=>
   intro s hs h0
   unfold rn at h0 ⊢
   by_cases hl:s.ls=[]
   ·rw[if_pos hl];exact hs
   ·rw[if_neg hl] at h0 ⊢
    by_cases hq:qE s≠0
    ·rw[if_pos hq] at h0;exact absurd h0 hq
    ·rw[if_neg hq] at h0 ⊢
     exact ih _ (qS_rt hs) h0
 have r1:=this ls.length _ r0 n0
 unfold bM bX
 rw[if_pos h,if_pos h]
 exact r1
end Go.Proofs.YtahiajeggbpogaaGreatDoor.Up
namespace Go.Proofs.YtahiajeggbpogaaGreatDoor.Up
open Go.RowKit Px Tx Tb
set_option linter.unusedVariables false
set_option linter.unusedSimpArgs false
def oZ(s:Sta)(L:List Fd):Prop:=kk (hd s.ls)=3∧L=[]
instance (s:Sta) (L:List Fd):Decidable (oZ s L):=by unfold oZ;infer_instance
def oE(most:Int)(s:Sta)(L:List Fd):Int:=if oZ s L then zE most s else qE s
def oS(most:Int)(s:Sta)(L:List Fd):Sta:=if oZ s L then zS most s else qS s
def oL(s:Sta)(L:List Fd):List Fd:=if oZ s L then L else L++[qF s]
def dn(most:Int):Nat→Sta→List Fd→Int×List Fd×Sta
 | 0,s,L=>(0,L,s)
 | k+1,s,L=>if s.ls=[] then (0,L,s) else if oE most s L≠0 then (oE most s L,[],s) else dn most k (oS most s L) (oL s L)
theorem dn_rn{most:Int} : ∀(k:Nat) (s:Sta) (L:List Fd),L≠[]→(dn most k s L).1=(rn k s).1∧((rn k s).1=0→(dn most k s L).2=(L++(rn k s).2.1,(rn k s).2.2))
 | 0,s,L,h=>by
  unfold dn rn
  exact⟨rfl,fun _=>by simp⟩
 | k+1,s,L,h=>by
  have hz : ¬oZ s L:=fun g=>h g.2
  unfold dn rn
  by_cases h1:s.ls=[]
  ·rw[if_pos h1,if_pos h1]
   exact⟨rfl,fun _=>by simp⟩
  ·have e1:oE most s L=qE s:=if_neg hz
   have e2:oS most s L=qS s:=if_neg hz
   have e3:oL s L=L++[qF s]:=if_neg hz
   rw[if_neg h1,if_neg h1,e1,e2,e3]
   by_cases h2:qE s≠0
   ·rw[if_pos h2,if_pos h2]
    exact⟨rfl,fun g=>absurd g h2⟩
   ·rw[if_neg h2,if_neg h2]
    obtain⟨i1,i2⟩:=dn_rn (most:=most) k (qS s) (L++[qF s]) (by simp)
    refine⟨i1,fun g=>?_⟩
    rw[i2 g]
    simp
theorem dn_zs{most:Int} : ∀(k:Nat) (s:Sta),s.ls.length≤k→
  ((zs most k s).1≠0→(dn most k s []).1=(zs most k s).1)∧
  ((zs most k s).1=0→∀f,(zs most k s).2.ls.length≤f→(dn most k s []).1=(rn f (zs most k s).2).1∧((rn f (zs most k s).2).1=0→(dn most k s []).2=((rn f (zs most k s).2).2.1,(rn f (zs most k s).2).2.2)))
 | 0,s,hk=>by
  have hl:s.ls=[]:=List.eq_nil_of_length_eq_zero (by omega)
  refine⟨fun g=>absurd rfl g,fun _ f hf=>?_⟩
  have e:rn f s=(0,[],s):=by
   cases f with
   | zero=>rfl
   | succ f=>unfold rn;rw[if_pos hl]
  show(0:Int)=(rn f s).1∧((rn f s).1=0→([],s)=((rn f s).2.1,(rn f s).2.2))
  rw[e]
  exact⟨rfl,fun _=>rfl⟩
 | k+1,s,hk=>by
  by_cases hl:s.ls=[]
  ·have e1:zs most (k+1) s=(0,s):=by unfold zs;rw[if_pos (.inl hl)]
   have e2:dn most (k+1) s []=(0,[],s):=by unfold dn;rw[if_pos hl]
   rw[e1,e2]
   refine⟨fun g=>absurd rfl g,fun _ f hf=>?_⟩
   have e:rn f s=(0,[],s):=by
    cases f with
    | zero=>rfl
    | succ f=>unfold rn;rw[if_pos hl]
   simp only
   rw[e]
   exact⟨rfl,fun _=>rfl⟩
  ·by_cases h3:kk (hd s.ls)=3
   ·have hz:oZ s []:=⟨h3,rfl⟩
    have e1:oE most s []=zE most s:=if_pos hz
    have e2:oS most s []=zS most s:=if_pos hz
    have e3:oL s []=[]:=if_pos hz
    have hle:=zS_less (most:=most) hl
    unfold zs dn
    rw[if_neg (fun g=>g.elim hl (fun q=>q h3)),if_neg hl,e1,e2,e3]
    by_cases h0:zE most s≠0
    ·rw[if_pos h0,if_pos h0]
     exact⟨fun _=>rfl,fun g=>absurd g h0⟩
    ·rw[if_neg h0,if_neg h0]
     exact dn_zs (most:=most) k (zS most s) (by omega)
   ·have hz : ¬oZ s []:=fun g=>h3 g.1
    have e1:oE most s []=qE s:=if_neg hz
    have e2:oS most s []=qS s:=if_neg hz
    have e3:oL s []=[qF s]:=if_neg hz
    have ez:zs most (k+1) s=(0,s):=by unfold zs;rw[if_pos (.inr h3)]
    rw[ez]
    refine⟨fun g=>absurd rfl g,fun _ f hf=>?_⟩
    simp only at hf ⊢
    have hls:=qS_less hl
    rw[rn_fuel f (k+1) s hf hk]
    unfold dn rn
    rw[if_neg hl,if_neg hl,e1,e2,e3]
    by_cases h0:qE s≠0
    ·rw[if_pos h0,if_pos h0]
     exact⟨rfl,fun g=>absurd g h0⟩
    ·rw[if_neg h0,if_neg h0]
     obtain⟨i1,i2⟩:=dn_rn (most:=most) k (qS s) [qF s] (by simp)
     refine⟨i1,fun g=>?_⟩
     rw[i2 g]
     simp
theorem d_block{M most:Int}{xs:List Fd}{ls:List UInt8}(h:okA M most xs=true) :
  bE M most xs ls=(dn most ls.length ⟨M,xs,ls⟩ []).1∧(bE M most xs ls=0→bAll M most xs ls=(dn most ls.length ⟨M,xs,ls⟩ []).2.1∧bM M most xs ls=(dn most ls.length ⟨M,xs,ls⟩ []).2.2.M∧bX M most xs ls=(dn most ls.length ⟨M,xs,ls⟩ []).2.2.xs):=by
 obtain⟨h1,h2⟩:=dn_zs (most:=most) ls.length ⟨M,xs,ls⟩ (Nat.le_refl _)
 have hE:bE M most xs ls=if (bZ most ⟨M,xs,ls⟩).1≠0 then (bZ most ⟨M,xs,ls⟩).1 else (bN most ⟨M,xs,ls⟩).1:=by
  unfold bE
  rw[if_neg (by rw[h];exact Bool.noConfusion)]
 by_cases hz:(bZ most ⟨M,xs,ls⟩).1≠0
 ·rw[hE,if_pos hz]
  exact⟨(h1 hz).symm,fun g=>absurd g hz⟩
 ·have hz0:(bZ most ⟨M,xs,ls⟩).1=0:=Classical.not_not.1 hz
  obtain⟨i1,i2⟩:=h2 hz0 ls.length (by have:=zs_less (most:=most) ls.length ⟨M,xs,ls⟩;exact this)
  have hb:bN most ⟨M,xs,ls⟩=rn ls.length (zs most ls.length ⟨M,xs,ls⟩).2:=rfl
  have hE2:=hE
  rw[if_neg hz] at hE2
  refine⟨hE2.trans (hb ▸ i1.symm),fun g=>?_⟩
  have g0:(rn ls.length (zs most ls.length ⟨M,xs,ls⟩).2).1=0:=by rw[←hb,←hE2];exact g
  have i3:=i2 g0
  refine⟨?_,?_,?_⟩
  ·unfold bAll;rw[hb,i3]
  ·unfold bM;rw[if_pos g,hb,i3]
  ·unfold bX;rw[if_pos g,hb,i3]
end Go.Proofs.YtahiajeggbpogaaGreatDoor.Up
