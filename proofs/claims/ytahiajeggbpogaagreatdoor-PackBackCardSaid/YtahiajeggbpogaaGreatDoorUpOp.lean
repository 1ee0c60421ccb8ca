import Derived.Test.YtahiajeggbpogaaGreatDoorUpYc
namespace Go.Proofs.YtahiajeggbpogaaGreatDoor.Up
open Go.RowKit Px Tx Tb
set_option linter.unusedVariables false
set_option linter.unusedSimpArgs false
def oZ(s:Sta)(L:List Fd):Prop:=kk (hd s.ls)=3∧L=[]
instance (s:Sta) (L:List Fd):Decidable (oZ s L):=by unfold oZ;infer_instance
def oE(most:Int)(s:Sta)(L:List Fd):Int:=if oZ s L then zE most s else qE s
def oS(most:Int)(s:Sta)(L:List Fd):Sta:=if oZ s L then zS most s else qS s
def oL(s:Sta)(L:List Fd):List Fd:=if oZ s L then L else L++[qF s]
def dn(most:Int):Nat→Sta→List Fd→Int×List Fd×Sta
 | 0,s,L=>(0,L,s)
 | k+1,s,L=>if s.ls=[] then (0,L,s) else if oE most s L≠0 then (oE most s L,[],s) else dn most k (oS most s L) (oL s L)
theorem dn_rn{most:Int} : ∀(k:Nat) (s:Sta) (L:List Fd),L≠[]→(dn most k s L).1=(rn k s).1∧((rn k s).1=0→(dn most k s L).2=(L++(rn k s).2.1,(rn k s).2.2))
 | 0,s,L,h=>by
  unfold dn rn
  exact⟨rfl,fun _=>by simp⟩
 | k+1,s,L,h=>by
  have hz : ¬oZ s L:=fun g=>h g.2
  unfold dn rn
  by_cases h1:s.ls=[]
  ·rw[if_pos h1,if_pos h1]
   exact⟨rfl,fun _=>by simp⟩
  ·have e1:oE most s L=qE s:=if_neg hz
   have e2:oS most s L=qS s:=if_neg hz
   have e3:oL s L=L++[qF s]:=if_neg hz
   rw[if_neg h1,if_neg h1,e1,e2,e3]
   by_cases h2:qE s≠0
   ·rw[if_pos h2,if_pos h2]
    exact⟨rfl,fun g=>absurd g h2⟩
   ·rw[if_neg h2,if_neg h2]
    obtain⟨i1,i2⟩:=dn_rn (most:=most) k (qS s) (L++[qF s]) (by simp)
    refine⟨i1,fun g=>?_⟩
    rw[i2 g]
    simp
theorem dn_zs{most:Int} : ∀(k:Nat) (s:Sta),s.ls.length≤k→
  ((zs most k s).1≠0→(dn most k s []).1=(zs most k s).1)∧
  ((zs most k s).1=0→∀f,(zs most k s).2.ls.length≤f→(dn most k s []).1=(rn f (zs most k s).2).1∧((rn f (zs most k s).2).1=0→(dn most k s []).2=((rn f (zs most k s).2).2.1,(rn f (zs most k s).2).2.2)))
 | 0,s,hk=>by
  have hl:s.ls=[]:=List.eq_nil_of_length_eq_zero (by omega)
  refine⟨fun g=>absurd rfl g,fun _ f hf=>?_⟩
  have e:rn f s=(0,[],s):=by
   cases f with
   | zero=>rfl
   | succ f=>unfold rn;rw[if_pos hl]
  show(0:Int)=(rn f s).1∧((rn f s).1=0→([],s)=((rn f s).2.1,(rn f s).2.2))
  rw[e]
  exact⟨rfl,fun _=>rfl⟩
 | k+1,s,hk=>by
  by_cases hl:s.ls=[]
  ·have e1:zs most (k+1) s=(0,s):=by unfold zs;rw[if_pos (.inl hl)]
   have e2:dn most (k+1) s []=(0,[],s):=by unfold dn;rw[if_pos hl]
   rw[e1,e2]
   refine⟨fun g=>absurd rfl g,fun _ f hf=>?_⟩
   have e:rn f s=(0,[],s):=by
    cases f with
    | zero=>rfl
    | succ f=>unfold rn;rw[if_pos hl]
   simp only
   rw[e]
   exact⟨rfl,fun _=>rfl⟩
  ·by_cases h3:kk (hd s.ls)=3
   ·have hz:oZ s []:=⟨h3,rfl⟩
    have e1:oE most s []=zE most s:=if_pos hz
    have e2:oS most s []=zS most s:=if_pos hz
    have e3:oL s []=[]:=if_pos hz
    have hle:=zS_less (most:=most) hl
    unfold zs dn
    rw[if_neg (fun g=>g.elim hl (fun q=>q h3)),if_neg hl,e1,e2,e3]
    by_cases h0:zE most s≠0
    ·rw[if_pos h0,if_pos h0]
     exact⟨fun _=>rfl,fun g=>absurd g h0⟩
    ·rw[if_neg h0,if_neg h0]
     exact dn_zs (most:=most) k (zS most s) (by omega)
   ·have hz : ¬oZ s []:=fun g=>h3 g.1
    have e1:oE most s []=qE s:=if_neg hz
    have e2:oS most s []=qS s:=if_neg hz
    have e3:oL s []=[qF s]:=if_neg hz
    have ez:zs most (k+1) s=(0,s):=by unfold zs;rw[if_pos (.inr h3)]
    rw[ez]
    refine⟨fun g=>absurd rfl g,fun _ f hf=>?_⟩
    simp only at hf ⊢
    have hls:=qS_less hl
    rw[rn_fuel f (k+1) s hf hk]
    unfold dn rn
    rw[if_neg hl,if_neg hl,e1,e2,e3]
    by_cases h0:qE s≠0
    ·rw[if_pos h0,if_pos h0]
     exact⟨rfl,fun g=>absurd g h0⟩
    ·rw[if_neg h0,if_neg h0]
     obtain⟨i1,i2⟩:=dn_rn (most:=most) k (qS s) [qF s] (by simp)
     refine⟨i1,fun g=>?_⟩
     rw[i2 g]
     simp
theorem d_block{M most:Int}{xs:List Fd}{ls:List UInt8}(h:okA M most xs=true) :
  bE M most xs ls=(dn most ls.length ⟨M,xs,ls⟩ []).1∧(bE M most xs ls=0→bAll M most xs ls=(dn most ls.length ⟨M,xs,ls⟩ []).2.1∧bM M most xs ls=(dn most ls.length ⟨M,xs,ls⟩ []).2.2.M∧bX M most xs ls=(dn most ls.length ⟨M,xs,ls⟩ []).2.2.xs):=by
 obtain⟨h1,h2⟩:=dn_zs (most:=most) ls.length ⟨M,xs,ls⟩ (Nat.le_refl _)
 have hE:bE M most xs ls=if (bZ most ⟨M,xs,ls⟩).1≠0 then (bZ most ⟨M,xs,ls⟩).1 else (bN most ⟨M,xs,ls⟩).1:=by
  unfold bE
  rw[if_neg (by rw[h];exact Bool.noConfusion)]
 by_cases hz:(bZ most ⟨M,xs,ls⟩).1≠0
 ·rw[hE,if_pos hz]
  exact⟨(h1 hz).symm,fun g=>absurd g hz⟩
 ·have hz0:(bZ most ⟨M,xs,ls⟩).1=0:=Classical.not_not.1 hz
  obtain⟨i1,i2⟩:=h2 hz0 ls.length (by have:=zs_less (most:=most) ls.length ⟨M,xs,ls⟩;exact this)
  have hb:bN most ⟨M,xs,ls⟩=rn ls.length (zs most ls.length ⟨M,xs,ls⟩).2:=rfl
  have hE2:=hE
  rw[if_neg hz] at hE2
  refine⟨hE2.trans (hb ▸ i1.symm),fun g=>?_⟩
  have g0:(rn ls.length (zs most ls.length ⟨M,xs,ls⟩).2).1=0:=by rw[←hb,←hE2];exact g
  have i3:=i2 g0
  refine⟨?_,?_,?_⟩
  ·unfold bAll;rw[hb,i3]
  ·unfold bM;rw[if_pos g,hb,i3]
  ·unfold bX;rw[if_pos g,hb,i3]
end Go.Proofs.YtahiajeggbpogaaGreatDoor.Up
