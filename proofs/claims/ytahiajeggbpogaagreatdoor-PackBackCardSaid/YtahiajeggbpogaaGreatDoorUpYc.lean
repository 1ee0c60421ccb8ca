import Derived.Test.YtahiajeggbpogaaGreatDoorUpYb
namespace Go.Proofs.YtahiajeggbpogaaGreatDoor.Up
open Go.RowKit Px Tx Tb
set_option linter.unusedVariables false
set_option linter.unusedSimpArgs false
def app(s:Sta)(b:List UInt8):Sta:=⟨s.M,s.xs,s.ls++b⟩
theorem hd_app{ls b:List UInt8}(h:ls≠[]):hd (ls++b)=hd ls:=by
 cases ls with
 | nil=>exact absurd rfl h
 | cons x l=>rfl
theorem tok_app{s:Sta}{b:List UInt8}(h:s.ls≠[])(h0:qC s=0):qC (app s b)=0∧qV (app s b)=qV s∧qR (app s b)=qR s++b∧kk (hd (app s b).ls)=kk (hd s.ls):=by
 have hk:=kb_bd (hd s.ls)
 obtain⟨h1,h2,h3⟩:=n_app (b:=b) (k:=kb (hd s.ls)) (by omega) h0
 have e:hd (app s b).ls=hd s.ls:=hd_app h
 refine⟨?_,?_,?_,by rw[e]⟩
 ·unfold qC;rw[e];exact h1
 ·unfold qV;rw[e];exact h2
 ·unfold qR;rw[e];exact h3
theorem ow_app{xs:List Fd}{ls b:List UInt8}{i:Nat}(h:owE xs ls i=0):owE xs (ls++b) i=0∧owF xs (ls++b) i=owF xs ls i∧owR xs (ls++b) i=owR xs ls i++b:=by
 unfold owE at h ⊢
 unfold owF owR
 by_cases hi:i=0
 ·rw[if_pos hi] at h ⊢
  rw[if_pos hi,if_pos hi,if_pos hi,if_pos hi]
  by_cases h1:tE ls=0
  ·rw[if_pos h1] at h
   obtain⟨a1,a2,a3⟩:=t_app (b:=b) h1
   obtain⟨b1,b2,b3⟩:=t_app (b:=b) h
   rw[if_pos a1,if_pos a1,if_pos a1,if_pos h1,if_pos h1,a2,a3,b1,b2,b3]
   exact⟨rfl,rfl,rfl⟩
  ·rw[if_neg h1] at h
   exact absurd h h1
 ·rw[if_neg hi] at h ⊢
  rw[if_neg hi,if_neg hi,if_neg hi,if_neg hi]
  by_cases h1:atE xs i=0
  ·rw[if_pos h1] at h
   obtain⟨a1,a2,a3⟩:=t_app (b:=b) h
   rw[if_pos h1,if_pos h1,if_pos h1,if_pos h1,if_pos h1,a1,a2,a3]
   exact⟨rfl,rfl,rfl⟩
  ·rw[if_neg h1] at h
   exact absurd h h1
theorem q_app{s:Sta}{b:List UInt8}(h:s.ls≠[])(h0:qE s=0):qE (app s b)=0∧qF (app s b)=qF s∧qS (app s b)=app (qS s) b:=by
 have hc:qC s=0:=by
  rcases Nat.eq_zero_or_pos (qC s) with h1 | h1
  ·exact h1
  ·unfold qE at h0;rw[if_pos (by omega)] at h0;omega
 obtain⟨c1,c2,c3,c4⟩:=tok_app (b:=b) h hc
 have hx:(app s b).xs=s.xs:=rfl
 have hM:(app s b).M=s.M:=rfl
 have h1:(if kk (hd s.ls)=1 then atE s.xs (qV s) else if kk (hd s.ls)=3 then 100 else if owE s.xs (qR s) (qV s)=0∧kk (hd s.ls)=2 then addE s.M s.xs else owE s.xs (qR s) (qV s))=0:=by
  unfold qE at h0
  rwa [if_neg (by omega)] at h0
 unfold qE qF qS
 rw[c1,c2,c3,c4,hx,hM,hc]
 simp only[ne_eq,not_true_eq_false,if_false]
 by_cases k1:kk (hd s.ls)=1
 ·rw[if_pos k1] at h1
  exact⟨by rw[if_pos k1];exact h1,by rw[if_pos k1,if_pos k1],by rw[if_pos k1,if_pos k1];rfl⟩
 ·by_cases k3:kk (hd s.ls)=3
  ·rw[if_neg k1,if_pos k3] at h1;omega
  ·rw[if_neg k1,if_neg k3] at h1
   have ho:owE s.xs (qR s) (qV s)=0:=by
    by_cases hh:owE s.xs (qR s) (qV s)=0∧kk (hd s.ls)=2
    ·exact hh.1
    ·rwa [if_neg hh] at h1
   obtain⟨o1,o2,o3⟩:=ow_app (b:=b) ho
   rw[ho] at h1
   rw[o1,o2,o3,ho]
   refine⟨by rw[if_neg k1,if_neg k3];exact h1,by rw[if_neg k1,if_neg k3],?_⟩
   rw[if_neg k1,if_neg k3,if_neg k1,if_neg k3]
   split<;>rfl
theorem rn_app{b:List UInt8} : ∀(f f':Nat) (s s1:Sta) (L:List Fd),s.ls.length≤f→s.ls.length+b.length≤f'→rn f s=(0,L,s1)→s1.ls=[]∧∃f2,b.length≤f2∧rn f' (app s b)=((rn f2 ⟨s1.M,s1.xs,b⟩).1,L++(rn f2 ⟨s1.M,s1.xs,b⟩).2.1,(rn f2 ⟨s1.M,s1.xs,b⟩).2.2)
 | 0,f',s,s1,L,h1,h2,h3=>by
  have hl:s.ls=[]:=List.eq_nil_of_length_eq_zero (by omega)
  cases h3
  exact⟨hl,f',by omega,by rw[show app s b=⟨s.M,s.xs,b⟩ by unfold app;rw[hl];rfl];rfl⟩
 | f+1,f',s,s1,L,h1,h2,h3=>by
  unfold rn at h3
  by_cases hl:s.ls=[]
  ·rw[if_pos hl] at h3
   cases h3
   exact⟨hl,f',by omega,by rw[show app s b=⟨s.M,s.xs,b⟩ by unfold app;rw[hl];rfl];rfl⟩
  ·rw[if_neg hl] at h3
   by_cases he:qE s≠0
   ·rw[if_pos he] at h3
    simp only[Prod.mk.injEq] at h3
    exact absurd h3.1 he
   ·rw[if_neg he] at h3
    have he0:qE s=0:=Classical.not_not.1 he
    simp only[Prod.mk.injEq] at h3
    obtain⟨e1,e2,e3⟩:=h3
    have hls:=qS_less hl
    obtain⟨a1,a2,a3⟩:=q_app (b:=b) hl he0
    have hpos:=List.length_pos_iff.2 hl
    cases f' with
    | zero=>omega
    | succ f'=>
     obtain⟨r1,f2,r2,r3⟩:=rn_app (b:=b) f f' (qS s) s1 (rn f (qS s)).2.1 (by omega) (by omega) (by rw[←e1,←e3])
     refine⟨r1,f2,r2,?_⟩
     conv=>lhs;unfold rn
     rw[if_neg (show ¬(app s b).ls=[] from fun h=>hl (List.append_eq_nil_iff.1 h).1),if_neg (by rw[a1];simp),a2,a3,r3,←e2]
     rfl
theorem zs_app{most:Int}{b:List UInt8}(hb:b=[]∨kk (hd b)≠3) : ∀(f f':Nat) (s s1:Sta),s.ls.length≤f→s.ls.length+b.length≤f'→zs most f s=(0,s1)→zs most f' (app s b)=(0,app s1 b)
 | f,0,s,s1,h1,h2,h3=>by
  have hl:s.ls=[]:=List.eq_nil_of_length_eq_zero (by omega)
  have:zs most f s=(0,s):=by
   cases f with
   | zero=>rfl
   | succ f=>unfold zs;rw[if_pos (Or.inl hl)]
  rw[this] at h3
  cases h3
  rfl
 | 0,f'+1,s,s1,h1,h2,h3=>by
  have hl:s.ls=[]:=List.eq_nil_of_length_eq_zero (by omega)
  cases h3
  have e:(app s b).ls=b:=by unfold app;rw[hl];rfl
  unfold zs
  rw[if_pos (by rw[e];exact hb)]
 | f+1,f'+1,s,s1,h1,h2,h3=>by
  unfold zs at h3
  by_cases hl:s.ls=[]
  ·rw[if_pos (Or.inl hl)] at h3
   cases h3
   have e:(app s b).ls=b:=by unfold app;rw[hl];rfl
   unfold zs
   rw[if_pos (by rw[e];exact hb)]
  ·have hh:hd (app s b).ls=hd s.ls:=hd_app hl
   have hne : ¬(app s b).ls=[]:=fun h=>hl (List.append_eq_nil_iff.1 h).1
   by_cases hk:kk (hd s.ls)≠3
   ·rw[if_pos (Or.inr hk)] at h3
    cases h3
    unfold zs
    rw[if_pos (Or.inr (by rw[hh];exact hk))]
   ·rw[if_neg (fun h=>h.elim hl hk)] at h3
    by_cases hz:zE most s≠0
    ·rw[if_pos hz] at h3
     simp only[Prod.mk.injEq] at h3
     exact absurd h3.1 hz
    ·rw[if_neg hz] at h3
     have hz0:zE most s=0:=Classical.not_not.1 hz
     have hc:qC s=0:=by
      rcases Nat.eq_zero_or_pos (qC s) with g | g
      ·exact g
      ·unfold zE at hz0;rw[if_pos (by omega)] at hz0;omega
     obtain⟨c1,c2,c3,c4⟩:=tok_app (b:=b) hl hc
     have hv : ¬most<(qV s:Int):=fun g=>by unfold zE at hz0;rw[if_neg (by omega),if_pos g] at hz0;omega
     have e1:zE most (app s b)=0:=by
      unfold zE at hz0 ⊢
      rw[c1,c2]
      rw[hc] at hz0
      exact hz0
     have e2:zS most (app s b)=app (zS most s) b:=by
      unfold zS
      rw[c1,c2,c3,hc,if_neg (by omega),if_neg hv,if_neg (by omega),if_neg hv]
      rfl
     have hls:(zS most s).ls.length<s.ls.length:=by
      unfold zS
      rw[if_neg (by omega),if_neg hv]
      exact n_less (by have:=kb_bd (hd s.ls);omega) hc
     have ih:=zs_app hb f f' (zS most s) s1 (by omega) (by omega) h3
     conv=>lhs;unfold zs
     rw[if_neg (fun h=>h.elim hne (fun g=>g (by rw[hh];exact Classical.not_not.1 hk))),if_neg (by rw[e1];simp),e2]
     exact ih
theorem bE_parts{M most:Int}{xs:List Fd}{ls:List UInt8}(h:okA M most xs=true):bE M most xs ls=0↔(bZ most ⟨M,xs,ls⟩).1=0∧(bN most ⟨M,xs,ls⟩).1=0:=by
 unfold bE
 rw[if_neg (by rw[h];exact Bool.noConfusion)]
 by_cases hz:(bZ most ⟨M,xs,ls⟩).1≠0
 ·rw[if_pos hz]
  exact⟨fun g=>absurd g hz,fun g=>absurd g.1 hz⟩
 ·rw[if_neg hz]
  exact⟨fun g=>⟨Classical.not_not.1 hz,g⟩,fun g=>g.2⟩
theorem rn_fuel : ∀(f f':Nat) (s:Sta),s.ls.length≤f→s.ls.length≤f'→rn f s=rn f' s
 | 0,f',s,h1,h2=>by
  have hl:s.ls=[]:=List.eq_nil_of_length_eq_zero (by omega)
  cases f' with
  | zero=>rfl
  | succ f'=>unfold rn;rw[if_pos hl]
 | f+1,0,s,h1,h2=>by
  have hl:s.ls=[]:=List.eq_nil_of_length_eq_zero (by omega)
  unfold rn
  rw[if_pos hl]
 | f+1,f'+1,s,h1,h2=>by
  unfold rn
  by_cases hl:s.ls=[]
  ·rw[if_pos hl,if_pos hl]
  ·have hls:=qS_less hl
   rw[if_neg hl,if_neg hl,rn_fuel f f' (qS s) (by omega) (by omega)]
theorem parts{M most:Int}{xs:List Fd}{a b:List UInt8}(h:okA M most xs=true)(ha:bE M most xs a=0)(hb:b=[]∨kk (hd b)≠3)(h2:okA (bM M most xs a) most (bX M most xs a)=true) :
  bE M most xs (a++b)=bE (bM M most xs a) most (bX M most xs a) b∧bAll M most xs (a++b)=bAll M most xs a++bAll (bM M most xs a) most (bX M most xs a) b∧
  (bE M most xs (a++b)=0→bM M most xs (a++b)=bM (bM M most xs a) most (bX M most xs a) b∧bX M most xs (a++b)=bX (bM M most xs a) most (bX M most xs a) b):=by
 obtain⟨z0,n0⟩:=(bE_parts h).1 ha
 obtain⟨s0,hs0⟩ : ∃s0,(bZ most ⟨M,xs,a⟩).2=s0:=⟨_,rfl⟩
 have hz:zs most a.length ⟨M,xs,a⟩=(0,s0):=by
  rw[←hs0,←z0];rfl
 have hl0:s0.ls.length≤a.length:=by have:=zs_less (most:=most) a.length ⟨M,xs,a⟩;rw[hz] at this;exact this
 obtain⟨L,s1,hn⟩ : ∃L s1,rn a.length s0=(0,L,s1):=by
  refine⟨(bN most ⟨M,xs,a⟩).2.1,(bN most ⟨M,xs,a⟩).2.2,?_⟩
  rw[←n0]
  unfold bN
  rw[hs0]
 have hbn:bN most ⟨M,xs,a⟩=(0,L,s1):=by unfold bN;rw[hs0];exact hn
 have eM:bM M most xs a=s1.M:=by unfold bM;rw[if_pos ha,hbn]
 have eX:bX M most xs a=s1.xs:=by unfold bX;rw[if_pos ha,hbn]
 have eL:bAll M most xs a=L:=by unfold bAll;rw[hbn]
 rw[eM,eX] at h2
 rw[eM,eX,eL]
 have hz2:bZ most ⟨M,xs,a++b⟩=(0,app s0 b):=zs_app hb a.length (a++b).length ⟨M,xs,a⟩ s0 (Nat.le_refl _) (by simp) hz
 obtain⟨_,f2,g2,g3⟩:=rn_app (b:=b) a.length (a++b).length s0 s1 L hl0 (by simp;omega) hn
 have hzb:bZ most ⟨s1.M,s1.xs,b⟩=(0,⟨s1.M,s1.xs,b⟩):=by
  rcases hb with rfl | hb
  ·rfl
  ·exact bZ_none hb
 have hnb:bN most ⟨s1.M,s1.xs,b⟩=rn f2 ⟨s1.M,s1.xs,b⟩:=by
  unfold bN
  rw[hzb]
  exact rn_fuel _ _ _ (Nat.le_refl _) g2
 have hnn:bN most ⟨M,xs,a++b⟩=((bN most ⟨s1.M,s1.xs,b⟩).1,L++(bN most ⟨s1.M,s1.xs,b⟩).2.1,(bN most ⟨s1.M,s1.xs,b⟩).2.2):=by
  rw[hnb,←g3]
  unfold bN
  rw[hz2]
 have hE:bE M most xs (a++b)=bE s1.M most s1.xs b:=by
  unfold bE
  rw[if_neg (show ¬okA M most xs=false by rw[h];exact Bool.noConfusion),if_neg (show ¬(bZ most ⟨M,xs,a++b⟩).1≠0 by rw[hz2];simp),if_neg (show ¬okA s1.M most s1.xs=false by rw[h2];exact Bool.noConfusion),if_neg (show ¬(bZ most ⟨s1.M,s1.xs,b⟩).1≠0 by rw[hzb];simp),hnn]
 refine⟨hE,by unfold bAll;rw[hnn],fun h0=>?_⟩
 have h0':=hE ▸ h0
 refine⟨?_,?_⟩
 ·unfold bM;rw[if_pos h0,if_pos h0',hnn]
 ·unfold bX;rw[if_pos h0,if_pos h0',hnn]
end Go.Proofs.YtahiajeggbpogaaGreatDoor.Up
