import Derived.Test.YtahiajeggbpogaaGreatDoorUpOf
import Derived.Test.YtahiajeggbpogaaGreatDoorUpYb
namespace Go.Proofs.YtahiajeggbpogaaGreatDoor
open Go.RowKit Go.Shelf Px Tx Tb Up GD
set_option linter.unusedVariables false
set_option linter.unusedSimpArgs false
theorem d_at_hid{M:Int}{xs:List Fd}{v:Nat}(hx:xs.length≤1000000)(hv:v<2147483648){ga gb:ByteArray}{E:Int}(h1:(atV xs v).1=ga)(h2:(atV xs v).2=gb)(h3:atE xs v=E) :
  Hid (∀(A2:Option Addr) (n2 c2:Nat) (W:World),Fs W W.heap.size A2 n2 xs→Calls Tryz.prog 66 #[.agg #[.int .i64 M,.slice A2 n2 c2],.int .i64 (v:Int)] W fun e w'=>e = .returned (.tuple #[.agg #[.string ga,.string gb],.int .i64 E])∧Below W.heap.size W w'):=
 Lib.hid fun A2 n2 c2 W h=>by
  have hl:=h.1
  have h0:=r_at M A2 n2 c2 xs v W h (by omega) (i64_wf (by omega) (by omega))
  unfold fdv at h0
  rw[h1,h2,h3] at h0
  exact h0
section
variable {w:World}{fs:List Fact}{gs:List Bx}{i g B:Nat}{M:Int}{xs:List Fd}{ls:List UInt8}{T:List Fd}
theorem d_literal(k:Nat)(add:Bool)(hO:OpR w fs gs i g B ⟨M,xs,ls⟩ T)(h1:1≤k)(h8:k≤8)(hn:ls.length≤10000)(hF:full xs≤20000)(hT:full T≤800000000) :
  Calls Tryz.prog 68 #[.pointer (some ⟨g,0,none⟩),.int .i64 (k:Int),.bool add] w fun e w'=>∃E,e = .returned (.int .i64 E)∧Below B w w'∧(E=(if nC ls k≠0 then (nC ls k:Int) else owE xs (nR ls k) (nV ls k))∧(E=0→OpR w' fs gs i g B (if add then ⟨addM M xs,addL M xs (owF xs (nR ls k) (nV ls k)),owR xs (nR ls k) (nV ls k)⟩ else ⟨M,xs,owR xs (nR ls k) (nV ls k)⟩) (T++[owF xs (nR ls k) (nV ls k)]))):=by
 have HN : ∀{W:World} {gs:List Bx} {i:Nat},OpR W fs gs i g B ⟨M,xs,ls⟩ T→Calls Tryz.prog 65 #[.pointer (some ⟨g,0,none⟩),.int .i64 (k:Int)] W fun e w'=>e = .returned (.tuple #[.int .i64 (nV ls k:Int),.int .i64 (nC ls k:Int)])∧Below B W w'∧OpR w' fs gs i g B ⟨M,xs,nQ ls k⟩ T:=fun h=>d_num k h h1 h8 (by show ls.length≤_;omega)
 by_cases hc:nC ls k≠0
 ·rw[if_pos hc]
  refine(d_lit_n (R1:=[]) (R2:=[]) (E1:=0) (E2:=0) (GE:=0) (s1:=⟨#[]⟩) (s2:=⟨#[]⟩) (ga:=⟨#[]⟩) (gb:=⟨#[]⟩) k add hO (Lib.hid HN) (by omega)).mono ?_
  rintro e w' ⟨rfl,hb⟩
  exact⟨_,rfl,hb,rfl,fun g=>by omega⟩
 have hc0:nC ls k=0:=Classical.not_not.1 hc
 rw[if_neg hc]
 have hQ:nQ ls k=nR ls k:=if_pos hc0
 have hv:=(n_bd h8 hc0).1
 have hRl:=n_le ls k
 simp only[hc0,hQ] at HN
 have hFx:=full_len xs
 generalize nR ls k=R at *
 generalize nV ls k=V at *
 have HT : ∀(l:List UInt8),l.length≤10000→∀{W:World} {gs:List Bx} {i:Nat},OpR W fs gs i g B ⟨M,xs,l⟩ T→Calls Tryz.prog 91 #[.pointer (some ⟨g,0,none⟩)] W fun e w'=>e = .returned (.tuple #[.string (st (tS l)),.int .i64 (tE l)])∧Below B W w'∧OpR w' fs gs i g B ⟨M,xs,tQ l⟩ T:=fun l hl {W gs i} h=>d_txt h hl
 have hsz:=own_sz xs R V (by omega) (by omega)
 by_cases hV:V=0
 ·subst hV
  have hT1:=@HT R (by omega)
  by_cases e1:tE R=0
  ·rw[e1,show tQ R=tRs R from if_pos e1] at hT1
   have hle:=t_le R
   have hT2:=@HT (tRs R) (by omega)
   have eF:owF xs R 0=(st (tS R),st (tS (tRs R))):=by unfold owF;rw[if_pos rfl,if_pos e1]
   have eR:owR xs R 0=tRs (tRs R):=by unfold owR;rw[if_pos rfl,if_pos e1]
   have eE:owE xs R 0=tE (tRs R):=by unfold owE;rw[if_pos rfl,if_pos e1]
   rw[eF] at hsz
   rw[eF,eR,eE]
   by_cases e2:tE (tRs R)=0
   ·rw[e2,show tQ (tRs R)=tRs (tRs R) from if_pos e2] at hT2
    rw[e2]
    have hTl : ∀{W:World} {gs:List Bx} {i:Nat},OpR W fs gs i g B ⟨M,xs,tRs (tRs R)⟩ T→Calls Tryz.prog 67 #[.pointer (some ⟨g,0,none⟩),.agg #[.string (st (tS R)),.string (st (tS (tRs R)))]] W fun e w'=>e = .returned (.tuple #[])∧Below B W w'∧OpR w' fs gs i g B ⟨M,xs,tRs (tRs R)⟩ (T++[(st (tS R),st (tS (tRs R)))]):=fun h=>d_tel _ _ h (by omega) (by omega)
    cases add with
    | false=>
     refine(d_lit_t3 (V:=0) (CE:=0) (E1:=0) (E2:=0) (GE:=0) (ga:=⟨#[]⟩) (gb:=⟨#[]⟩) k false hO (Lib.hid HN) (Lib.hid hT1) (Lib.hid hT2) (Lib.hid hTl) rfl).mono ?_
     rintro e w' ⟨rfl,hb,hk⟩
     exact⟨0,rfl,hb,rfl,fun _=>hk⟩
    | true=>
     refine(d_lit_t4 (V:=0) (CE:=0) (E1:=0) (E2:=0) (GE:=0) (ga:=⟨#[]⟩) (gb:=⟨#[]⟩) k true hO (Lib.hid HN) (Lib.hid hT1) (Lib.hid hT2) (Lib.hid hTl) rfl (by omega) hsz).mono ?_
     rintro e w' ⟨rfl,hb,hk⟩
     exact⟨0,rfl,hb,rfl,fun _=>hk⟩
   ·refine(d_lit_t2 (V:=0) (CE:=0) (E1:=0) (GE:=0) (ga:=⟨#[]⟩) (gb:=⟨#[]⟩) k add hO (Lib.hid HN) (Lib.hid hT1) (Lib.hid hT2) e2).mono ?_
    rintro e w' ⟨rfl,hb⟩
    exact⟨_,rfl,hb,rfl,fun g=>absurd g e2⟩
  ·have eE:owE xs R 0=tE R:=by unfold owE;rw[if_pos rfl,if_neg e1]
   rw[eE]
   refine(d_lit_t1 (V:=0) (R2:=[]) (CE:=0) (E2:=0) (GE:=0) (s2:=⟨#[]⟩) (ga:=⟨#[]⟩) (gb:=⟨#[]⟩) k add hO (Lib.hid HN) (Lib.hid hT1) e1).mono ?_
   rintro e w' ⟨rfl,hb⟩
   exact⟨_,rfl,hb,rfl,fun g=>absurd g e1⟩
 ·by_cases ea:atE xs V=0
  ·have hT2:=@HT R (by omega)
   have HA:=d_at_hid (M:=M) (xs:=xs) (v:=V) (by omega) hv rfl rfl ea
   have eF:owF xs R V=((atV xs V).1,st (tS R)):=by unfold owF;rw[if_neg hV,if_pos ea]
   have eR:owR xs R V=tRs R:=by unfold owR;rw[if_neg hV,if_pos ea]
   have eE:owE xs R V=tE R:=by unfold owE;rw[if_neg hV,if_pos ea]
   rw[eF] at hsz
   rw[eF,eR,eE]
   by_cases e2:tE R=0
   ·rw[e2,show tQ R=tRs R from if_pos e2] at hT2
    rw[e2]
    have hTl : ∀{W:World} {gs:List Bx} {i:Nat},OpR W fs gs i g B ⟨M,xs,tRs R⟩ T→Calls Tryz.prog 67 #[.pointer (some ⟨g,0,none⟩),.agg #[.string (atV xs V).1,.string (st (tS R))]] W fun e w'=>e = .returned (.tuple #[])∧Below B W w'∧OpR w' fs gs i g B ⟨M,xs,tRs R⟩ (T++[((atV xs V).1,st (tS R))]):=fun h=>d_tel _ _ h (by omega) (by omega)
    cases add with
    | false=>
     refine(d_lit_i3 (R1:=[]) (CE:=0) (E1:=0) (E2:=0) (GE:=0) (s1:=⟨#[]⟩) k false hO (Lib.hid HN) HA (Lib.hid hT2) (by omega) (Lib.hid hTl) rfl).mono ?_
     rintro e w' ⟨rfl,hb,hk⟩
     exact⟨0,rfl,hb,rfl,fun _=>hk⟩
    | true=>
     refine(d_lit_i4 (R1:=[]) (CE:=0) (E1:=0) (E2:=0) (GE:=0) (s1:=⟨#[]⟩) k true hO (Lib.hid HN) HA (Lib.hid hT2) (by omega) (Lib.hid hTl) rfl (by omega) hsz).mono ?_
     rintro e w' ⟨rfl,hb,hk⟩
     exact⟨0,rfl,hb,rfl,fun _=>hk⟩
   ·refine(d_lit_i2 (R1:=[]) (CE:=0) (E1:=0) (GE:=0) (s1:=⟨#[]⟩) k add hO (Lib.hid HN) HA (Lib.hid hT2) (by omega) e2).mono ?_
    rintro e w' ⟨rfl,hb⟩
    exact⟨_,rfl,hb,rfl,fun g=>absurd g e2⟩
  ·have eE:owE xs R V=atE xs V:=by unfold owE;rw[if_neg hV,if_neg ea]
   rw[eE]
   refine(d_lit_i1 (R1:=[]) (R2:=[]) (CE:=0) (E1:=0) (E2:=0) (s1:=⟨#[]⟩) (s2:=⟨#[]⟩) k add hO (Lib.hid HN) (d_at_hid (by omega) hv rfl rfl rfl) (by omega) ea).mono ?_
   rintro e w' ⟨rfl,hb⟩
   exact⟨_,rfl,hb,rfl,fun g=>absurd g ea⟩
theorem d_resize(most:Int)(hO:OpR w fs gs i g B ⟨M,xs,ls⟩ T)(hn:ls.length≤10000)(hF:full xs≤20000) :
  Calls Tryz.prog 69 #[.pointer (some ⟨g,0,none⟩),.int .i64 most] w fun e w'=>∃E,e = .returned (.int .i64 E)∧Below B w w'∧(E=(if nC ls 5≠0 then (nC ls 5:Int) else if T≠[]∨most<(nV ls 5:Int) then 100 else 0)∧(E=0→OpR w' fs gs i g B ⟨resM M xs (nV ls 5),resL M xs (nV ls 5),nR ls 5⟩ T)):=by
 have HN : ∀{W:World} {gs:List Bx} {i:Nat},OpR W fs gs i g B ⟨M,xs,ls⟩ T→Calls Tryz.prog 65 #[.pointer (some ⟨g,0,none⟩),.int .i64 5] W fun e w'=>e = .returned (.tuple #[.int .i64 (nV ls 5:Int),.int .i64 (nC ls 5:Int)])∧Below B W w'∧OpR w' fs gs i g B ⟨M,xs,nQ ls 5⟩ T:=fun h=>d_num 5 h (by omega) (by omega) (by show ls.length≤_;omega)
 by_cases hc:nC ls 5≠0
 ·rw[if_pos hc]
  refine(d_res_n most hO (Lib.hid HN) (by omega)).mono ?_
  rintro e w' ⟨rfl,hb⟩
  exact⟨_,rfl,hb,rfl,fun g=>by omega⟩
 have hc0:nC ls 5=0:=Classical.not_not.1 hc
 have hQ:nQ ls 5=nR ls 5:=if_pos hc0
 rw[if_neg hc]
 simp only[hc0,hQ] at HN
 by_cases hT:T=[]
 ·have hY:(!T.isEmpty)=false:=by rw[hT];rfl
  by_cases hm:most<(nV ls 5:Int)
  ·rw[if_pos (.inr hm)]
   refine(d_res_m (CE:=0) most hO (Lib.hid HN) (Lib.hid hY) hm).mono ?_
   rintro e w' ⟨rfl,hb⟩
   exact⟨_,rfl,hb,rfl,fun g=>by omega⟩
  ·rw[if_neg (fun h=>h.elim (fun q=>q hT) hm)]
   refine(d_res_y (CE:=0) most hO (Lib.hid HN) (Lib.hid hY) hm (by omega)).mono ?_
   rintro e w' ⟨rfl,hb,hk⟩
   exact⟨_,rfl,hb,rfl,fun _=>hk⟩
 ·rw[if_pos (.inl hT)]
  have hY:(!T.isEmpty)=true:=by cases T with
   | nil=>exact absurd rfl hT
   | cons a b=>rfl
  refine(d_res_a (CE:=0) most hO (Lib.hid HN) (Lib.hid hY)).mono ?_
  rintro e w' ⟨rfl,hb⟩
  exact⟨_,rfl,hb,rfl,fun g=>by omega⟩
end
end Go.Proofs.YtahiajeggbpogaaGreatDoor
