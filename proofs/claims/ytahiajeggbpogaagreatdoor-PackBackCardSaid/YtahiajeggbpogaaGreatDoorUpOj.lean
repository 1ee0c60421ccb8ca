import Derived.Test.YtahiajeggbpogaaGreatDoorUpOi
import Derived.Test.YtahiajeggbpogaaGreatDoorUpLa
namespace Go.Proofs.YtahiajeggbpogaaGreatDoor
open Go.RowKit Go.Shelf Px Tx Tb Up GD
set_option linter.unusedVariables false
set_option linter.unusedSimpArgs false
theorem d_call{fs:List Fact}{gs:List Bx}{M most:Int}{A:Option Addr}{n c:Nat}{xs:List Fd}{LA:Option Addr}{ln lc:Nat}{ls:List UInt8}{E:Int}{nl:Nat}{L:List Fd}{G:Bool}{N:Int}{nt:Nat}{X:List Fd}(w:World)(hk:BK M most xs ls E nl L G N nt X)(hV:EnvF w fs gs)(hL:bF LA ln ls∈fs)(hLN:LA=none→lc=0)(hA:fF A n xs∈fs)(hN:A=none→c=0)(hF:full xs≤20000)(hn:ln≤8000) :
  Calls Tryz.prog 9 #[.agg #[.int .i64 M,.slice A n c],.int .i64 most,.slice LA ln lc] w fun e w'=>∃LL cl TT tc,e = .returned (.tuple #[.agg #[.slice LL nl cl,.bool G,.int .i64 N,.slice TT nt tc],.int .i64 E])∧Below w.heap.size w w'∧EnvF w' (fF LL nl L::fF TT nt X::fs) gs∧(LL=none→cl=0)∧(TT=none→tc=0):=by
 obtain⟨rfl,rfl,rfl,rfl,rfl,rfl,rfl⟩:=hk
 have bad : ∀{E:Int},bE M most xs ls=E→E≠0→∀{e:Ending} {w':World},e = .returned (.tuple #[.agg #[.slice none 0 0,.bool false,.int .i64 0,.slice none 0 0],.int .i64 E])→Below w.heap.size w w'→∃LL cl TT tc,e = .returned (.tuple #[.agg #[.slice LL (bL M most xs ls).length cl,.bool (bG M most xs ls),.int .i64 (bM M most xs ls),.slice TT (bX M most xs ls).length tc],.int .i64 (bE M most xs ls)])∧Below w.heap.size w w'∧EnvF w' (fF LL (bL M most xs ls).length (bL M most xs ls)::fF TT (bX M most xs ls).length (bX M most xs ls)::fs) gs∧(LL=none→cl=0)∧(TT=none→tc=0):=by
  intro E hE h0 e w' he hb
  have h1:bL M most xs ls=[]:=by unfold bL;rw[hE,if_neg h0]
  have h2:bX M most xs ls=[]:=by unfold bX;rw[hE,if_neg h0]
  have h3:bM M most xs ls=0:=by unfold bM;rw[hE,if_neg h0]
  have h4:bG M most xs ls=false:=by unfold bG;rw[hE,decide_eq_false h0,Bool.false_and]
  rw[h1,h2,h3,h4,hE]
  exact⟨none,0,none,0,he,hb,env_nil (env_nil (hV.on hb)),fun _=>rfl,fun _=>rfl⟩
 have hR : ∀b,rightB M xs=b→Hid (∀w0:World,Fs w0 w0.heap.size A n xs→Calls Tryz.prog 36 #[.agg #[.int .i64 M,.slice A n c]] w0 fun e w'=>e = .returned (.bool b)∧Below w0.heap.size w0 w'):=fun b hb=>Lib.hid fun w0 h=>by
  rw[←hb]
  exact r_right M A n c xs w0 h (by omega)
 by_cases hr:rightB M xs=true
 ·by_cases h0:most<0
  ·refine(d_blk_m0 M most A n c xs LA ln lc ls w hV hA (hR _ hr) h0).mono ?_
   rintro e w' ⟨he,hb⟩
   exact bad (by unfold bE okA okB;rw[hr,decide_eq_false (by omega)];rfl) (by omega) he hb
  ·by_cases h1:4096<most
   ·refine(d_blk_m1 M most A n c xs LA ln lc ls w hV hA (hR _ hr) (by omega) h1).mono ?_
    rintro e w' ⟨he,hb⟩
    exact bad (by unfold bE okA okB;rw[hr,decide_eq_false (p:=most≤4096) (by omega),Bool.and_false];rfl) (by omega) he hb
   ·have ho:okA M most xs=true:=by unfold okA okB;rw[hr,decide_eq_true (by omega),decide_eq_true (by omega)];rfl
    obtain⟨e1,e2⟩:=d_block (ls:=ls) ho
    obtain⟨⟨E0,T0,s0⟩,hdn⟩ : ∃r,dn most ls.length ⟨M,xs,ls⟩ []=r:=⟨_,rfl⟩
    rw[hdn] at e1 e2
    simp only at e1 e2
    refine(d_blk_go M most A n c xs LA ln lc ls w hV hA (hR _ hr) hL hLN hN hF hn hr (by omega) (by omega) E0 T0 s0 hdn).mono ?_
    rintro e w' (⟨hz,he,hb⟩ | ⟨rfl,LL,cl,TT,tc,he,hb,hE,hcl,htc⟩)
    ·exact bad e1 hz he hb
    ·obtain⟨f1,f2,f3⟩:=e2 e1
     have g1:bL M most xs ls=keep 2000 T0:=by unfold bL;rw[e1,if_pos rfl,f1]
     have g4:bG M most xs ls=decide (2000<full T0):=by unfold bG;rw[e1,f1];simp
     rw[g1,f2,f3,g4,e1]
     exact⟨LL,cl,TT,tc,he,hb,hE,hcl,htc⟩
 ·have h':rightB M xs=false:=by simpa using hr
  refine(d_blk_r M most A n c xs LA ln lc ls w hV hA (hR _ h')).mono ?_
  rintro e w' ⟨he,hb⟩
  exact bad (by unfold bE okA;rw[h',Bool.false_and,if_pos rfl]) (by omega) he hb
end Go.Proofs.YtahiajeggbpogaaGreatDoor
