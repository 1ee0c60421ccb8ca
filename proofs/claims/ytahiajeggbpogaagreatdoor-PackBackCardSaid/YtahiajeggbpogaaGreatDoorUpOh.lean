import Derived.Test.YtahiajeggbpogaaGreatDoorUpOg
import Derived.Test.YtahiajeggbpogaaGreatDoorUpM
namespace Go.Proofs.YtahiajeggbpogaaGreatDoor
open Go.RowKit Go.Shelf Px Tx Tb Up GD
set_option linter.unusedVariables false
set_option linter.unusedSimpArgs false
theorem d_one{w:World}{fs:List Fact}{gs:List Bx}{i g B:Nat}{s:Sta}{T:List Fd}(most:Int)(hO:OpR w fs gs i g B s T)(hne:s.ls≠[])(hn:s.ls.length≤10000)(hr:rt s)(h0:0≤most)(h1:most≤4096)(hT:full T≤800000000) :
  Calls Tryz.prog 44 #[.pointer (some ⟨g,0,none⟩),.int .i64 most] w fun e w'=>∃E,e = .returned (.int .i64 E)∧Below B w w'∧(E=oE most s T∧(E=0→OpR w' fs gs i g B (oS most s T) (oL s T))):=by
 obtain⟨M,xs,ls⟩:=s
 have hbd:=rt_bd hr
 simp only at hbd hne hn
 have hF:full xs≤20000:=by omega
 have hFx:=full_len xs
 cases ls with
 | nil=>exact absurd rfl hne
 | cons x l=>
  have eh:hd (x::l)=x:=rfl
  by_cases c1:128≤x.toNat
  ·have k1:kk x=1:=if_pos c1
   have k2:kb x=7:=if_pos c1
   have hz : ¬oZ ⟨M,xs,x::l⟩ T:=fun g=>by have:=g.1;simp only[eh] at this;omega
   have eE:oE most ⟨M,xs,x::l⟩ T=qE ⟨M,xs,x::l⟩:=if_neg hz
   have eS:oS most ⟨M,xs,x::l⟩ T=qS ⟨M,xs,x::l⟩:=if_neg hz
   have eL:oL ⟨M,xs,x::l⟩ T=T++[qF ⟨M,xs,x::l⟩]:=if_neg hz
   have eC:qC ⟨M,xs,x::l⟩=nC (x::l) 7:=by unfold qC;simp only[eh,k2]
   have eV:qV ⟨M,xs,x::l⟩=nV (x::l) 7:=by unfold qV;simp only[eh,k2]
   have eR:qR ⟨M,xs,x::l⟩=nR (x::l) 7:=by unfold qR;simp only[eh,k2]
   have HN : ∀{W:World} {gs:List Bx} {i:Nat},OpR W fs gs i g B ⟨M,xs,x::l⟩ T→Calls Tryz.prog 65 #[.pointer (some ⟨g,0,none⟩),.int .i64 7] W fun e w'=>e = .returned (.tuple #[.int .i64 (nV (x::l) 7:Int),.int .i64 (nC (x::l) 7:Int)])∧Below B W w'∧OpR w' fs gs i g B ⟨M,xs,nQ (x::l) 7⟩ T:=fun h=>d_num 7 h (by omega) (by omega) (by show(x::l).length≤_;omega)
   rw[eE,eS,eL]
   unfold qE qF qS
   rw[eC,eV,eR]
   simp only[eh,k1]
   by_cases hc:nC (x::l) 7≠0
   ·rw[if_pos hc]
    refine(d_one_7n (GE:=0) (ga:=⟨#[]⟩) (gb:=⟨#[]⟩) most hO (Lib.hid HN) (by omega) c1).mono ?_
    rintro e w' ⟨rfl,hb⟩
    exact⟨_,rfl,hb,rfl,fun g=>by omega⟩
   ·have hc0:nC (x::l) 7=0:=Classical.not_not.1 hc
    have hQ:nQ (x::l) 7=nR (x::l) 7:=if_pos hc0
    have hv:=(n_bd (k:=7) (by omega) hc0).1
    simp only[hc0,hQ] at HN
    rw[if_neg hc,if_neg hc,if_neg hc]
    simp only[if_true]
    by_cases ea:atE xs (nV (x::l) 7)=0
    ·rw[ea]
     have hsz:=atV_sz xs (nV (x::l) 7)
     have hTl : ∀{W:World} {gs:List Bx} {i:Nat},OpR W fs gs i g B ⟨M,xs,nR (x::l) 7⟩ T→Calls Tryz.prog 67 #[.pointer (some ⟨g,0,none⟩),.agg #[.string (atV xs (nV (x::l) 7)).1,.string (atV xs (nV (x::l) 7)).2]] W fun e w'=>e = .returned (.tuple #[])∧Below B W w'∧OpR w' fs gs i g B ⟨M,xs,nR (x::l) 7⟩ (T++[((atV xs (nV (x::l) 7)).1,(atV xs (nV (x::l) 7)).2)]):=fun h=>d_tel _ _ h (by show sz (atV xs (nV (x::l) 7))≤_;omega) (by omega)
     refine(d_one_7y (CE:=0) (GE:=0) most hO (Lib.hid HN) (d_at_hid (by omega) hv rfl rfl ea) (Lib.hid hTl) c1).mono ?_
     rintro e w' ⟨rfl,hb,hk⟩
     exact⟨0,rfl,hb,rfl,fun _=>hk⟩
    ·refine(d_one_7e (CE:=0) most hO (Lib.hid HN) (d_at_hid (by omega) hv rfl rfl rfl) ea c1).mono ?_
     rintro e w' ⟨rfl,hb⟩
     exact⟨_,rfl,hb,rfl,fun g=>absurd g ea⟩
  ·by_cases c2:64≤x.toNat
   ·have k1:kk x=2:=by unfold kk;rw[if_neg c1,if_pos c2]
    have k2:kb x=6:=by unfold kb;rw[if_neg c1,if_pos c2]
    have hz : ¬oZ ⟨M,xs,x::l⟩ T:=fun g=>by have:=g.1;simp only[eh] at this;omega
    have eE:oE most ⟨M,xs,x::l⟩ T=qE ⟨M,xs,x::l⟩:=if_neg hz
    have eS:oS most ⟨M,xs,x::l⟩ T=qS ⟨M,xs,x::l⟩:=if_neg hz
    have eL:oL ⟨M,xs,x::l⟩ T=T++[qF ⟨M,xs,x::l⟩]:=if_neg hz
    have eC:qC ⟨M,xs,x::l⟩=nC (x::l) 6:=by unfold qC;simp only[eh,k2]
    have eV:qV ⟨M,xs,x::l⟩=nV (x::l) 6:=by unfold qV;simp only[eh,k2]
    have eR:qR ⟨M,xs,x::l⟩=nR (x::l) 6:=by unfold qR;simp only[eh,k2]
    refine(d_one_6 (V:=0) (R:=[]) (CE:=0) (GE:=0) (ga:=⟨#[]⟩) (gb:=⟨#[]⟩) most hO (Lib.hid fun h=>d_literal 6 true h (by omega) (by omega) hn hF hT) (by omega) c2).mono ?_
    rintro e w' ⟨E,rfl,hb,hE,hk⟩
    refine⟨E,rfl,hb,?_,fun g=>?_⟩
    ·rw[hE,eE]
     unfold qE
     rw[eC,eV,eR]
     simp only[eh,k1]
     split
     ·rfl
     ·rw[if_neg (by omega),if_neg (by omega)]
      split
      ·rename_i q
       rw[q.1,(rt_add hr fd0).2.1]
      ·rfl
    ·have h:=hk g
     rw[g] at hE
     rw[eS,eL]
     unfold qS qF
     rw[eC,eV,eR]
     simp only[eh,k1]
     have hc : ¬nC (x::l) 6≠0:=fun q=>by rw[if_pos q] at hE;omega
     rw[if_neg hc] at hE
     rw[if_neg hc,if_neg (by omega),if_neg (by omega),if_pos ⟨hE.symm,trivial⟩,if_neg hc,if_neg (by omega),if_neg (by omega)]
     exact h
   ·by_cases c3:32≤x.toNat
    ·have k1:kk x=3:=by unfold kk;rw[if_neg c1,if_neg c2,if_pos c3]
     have k2:kb x=5:=by unfold kb;rw[if_neg c1,if_neg c2,if_pos c3]
     have eC:qC ⟨M,xs,x::l⟩=nC (x::l) 5:=by unfold qC;simp only[eh,k2]
     have eV:qV ⟨M,xs,x::l⟩=nV (x::l) 5:=by unfold qV;simp only[eh,k2]
     have eR:qR ⟨M,xs,x::l⟩=nR (x::l) 5:=by unfold qR;simp only[eh,k2]
     refine(d_one_5 (V:=0) (R:=[]) (CE:=0) (GE:=0) (ga:=⟨#[]⟩) (gb:=⟨#[]⟩) most hO (Lib.hid fun h=>d_resize most h hn hF) (by omega) c3).mono ?_
     rintro e w' ⟨E,rfl,hb,hE,hk⟩
     by_cases hT0:T=[]
     ·have hz:oZ ⟨M,xs,x::l⟩ T:=⟨by simp only[eh];exact k1,hT0⟩
      have eE:oE most ⟨M,xs,x::l⟩ T=zE most ⟨M,xs,x::l⟩:=if_pos hz
      have eS:oS most ⟨M,xs,x::l⟩ T=zS most ⟨M,xs,x::l⟩:=if_pos hz
      have eL:oL ⟨M,xs,x::l⟩ T=T:=if_pos hz
      refine⟨E,rfl,hb,?_,fun g=>?_⟩
      ·rw[hE,eE]
       unfold zE
       rw[eC,eV]
       by_cases hc:nC (x::l) 5≠0
       ·rw[if_pos hc,if_pos hc]
       ·rw[if_neg hc,if_neg hc]
        by_cases hm:most<(nV (x::l) 5:Int)
        ·rw[if_pos (.inr hm),if_pos hm]
        ·rw[if_neg (fun q=>q.elim (fun u=>u hT0) hm),if_neg hm,(res_ok hr (by omega) (by omega)).1]
      ·have h:=hk g
       rw[g] at hE
       have hc : ¬nC (x::l) 5≠0:=fun q=>by rw[if_pos q] at hE;omega
       rw[if_neg hc] at hE
       have hm : ¬most<(nV (x::l) 5:Int):=fun q=>by rw[if_pos (.inr q)] at hE;omega
       rw[eS,eL]
       unfold zS
       rw[eC,eV,eR,if_neg hc,if_neg hm]
       exact h
     ·have hz : ¬oZ ⟨M,xs,x::l⟩ T:=fun g=>hT0 g.2
      have eE:oE most ⟨M,xs,x::l⟩ T=qE ⟨M,xs,x::l⟩:=if_neg hz
      have eE2:E=qE ⟨M,xs,x::l⟩:=by
       rw[hE]
       unfold qE
       rw[eC]
       simp only[eh,k1]
       split
       ·rfl
       ·rw[if_pos (.inl hT0),if_neg (by omega)]
        simp
      refine⟨E,rfl,hb,eE2.trans eE.symm,fun g=>?_⟩
      exfalso
      rw[g] at hE
      by_cases hc:nC (x::l) 5≠0
      ·rw[if_pos hc] at hE;omega
      ·rw[if_neg hc,if_pos (.inl hT0)] at hE;omega
    ·have k1:kk x=4:=by unfold kk;rw[if_neg c1,if_neg c2,if_neg c3]
     have k2:kb x=4:=by unfold kb;rw[if_neg c1,if_neg c2,if_neg c3]
     have hz : ¬oZ ⟨M,xs,x::l⟩ T:=fun g=>by have:=g.1;simp only[eh] at this;omega
     have eE:oE most ⟨M,xs,x::l⟩ T=qE ⟨M,xs,x::l⟩:=if_neg hz
     have eS:oS most ⟨M,xs,x::l⟩ T=qS ⟨M,xs,x::l⟩:=if_neg hz
     have eL:oL ⟨M,xs,x::l⟩ T=T++[qF ⟨M,xs,x::l⟩]:=if_neg hz
     have eC:qC ⟨M,xs,x::l⟩=nC (x::l) 4:=by unfold qC;simp only[eh,k2]
     have eV:qV ⟨M,xs,x::l⟩=nV (x::l) 4:=by unfold qV;simp only[eh,k2]
     have eR:qR ⟨M,xs,x::l⟩=nR (x::l) 4:=by unfold qR;simp only[eh,k2]
     refine(d_one_4 (V:=0) (R:=[]) (CE:=0) (GE:=0) (ga:=⟨#[]⟩) (gb:=⟨#[]⟩) most hO (Lib.hid fun h=>d_literal 4 false h (by omega) (by omega) hn hF hT) (by omega)).mono ?_
     rintro e w' ⟨E,rfl,hb,hE,hk⟩
     refine⟨E,rfl,hb,?_,fun g=>?_⟩
     ·rw[hE,eE]
      unfold qE
      rw[eC,eV,eR]
      simp only[eh,k1]
      split
      ·rfl
      ·rw[if_neg (by omega),if_neg (by omega),if_neg (fun q=>by have:=q.2;omega)]
     ·have h:=hk g
      rw[g] at hE
      rw[eS,eL]
      unfold qS qF
      rw[eC,eV,eR]
      simp only[eh,k1]
      have hc : ¬nC (x::l) 4≠0:=fun q=>by rw[if_pos q] at hE;omega
      rw[if_neg hc,if_neg (by omega),if_neg (by omega),if_neg (fun q=>by have:=q.2;omega),if_neg hc,if_neg (by omega),if_neg (by omega)]
      exact h
end Go.Proofs.YtahiajeggbpogaaGreatDoor
