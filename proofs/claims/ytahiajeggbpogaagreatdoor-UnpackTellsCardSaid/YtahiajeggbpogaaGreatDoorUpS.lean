import Derived.Test.YtahiajeggbpogaaGreatDoorUpO
import Derived.Test.YtahiajeggbpogaaGreatDoorUpR
set_option maxRecDepth 100000
namespace Go.Proofs.YtahiajeggbpogaaGreatDoor
open Go.RowKit Go.Shelf Px Tx Tb Up
set_option linter.unusedVariables false
set_option linter.unusedSimpArgs false
theorem Up.fs_nil(w:World)(B:Nat):Fs w B none 0 []:=⟨rfl,fun h=>absurd h (by omega)⟩
theorem Up.env_nil{w:World}{fs:List Fact}{gs:List Bx}(h:EnvF w fs gs):EnvF w (fF none 0 []::fs) gs:=
 h.fact (fs_nil w w.heap.size) (fun k hk=>absurd hk.1 (by omega))
theorem u_Block{fs:List Fact}{gs:List Bx}{M most:Int}{A:Option Addr}{n c:Nat}{xs:List Fd}{LA:Option Addr}{ln lc:Nat}{ls:List UInt8}(w:World)(hV:EnvF w fs gs)(hL:bF LA ln ls∈fs)(hlc:ln≤lc)(hLN:LA=none→lc=0)(hA:fF A n xs∈fs)(hN:A=none→c=0)(hS:stF∈fs)(hR:rwF∈fs)(hM:mvF∈fs)(hF:full xs≤20000)(hn:ln≤10000) :
  Calls Tryz.prog 8 #[.agg #[.int .i64 M,.slice A n c],.int .i64 most,.slice LA ln lc] w fun e w'=>∃LL cl TT tc,e = .returned (.tuple #[.agg #[.slice LL (bL M most xs ls).length cl,.bool (bG M most xs ls),.int .i64 (bM M most xs ls),.slice TT (bX M most xs ls).length tc],.int .i64 (bE M most xs ls)])∧Below w.heap.size w w'∧EnvF w' (fF LL (bL M most xs ls).length (bL M most xs ls)::fF TT (bX M most xs ls).length (bX M most xs ls)::fs) gs∧(LL=none→cl=0)∧(TT=none→tc=0):=by
 have bad : ∀{E:Int},bE M most xs ls=E→E≠0→∀{e:Ending} {w':World},e = .returned (.tuple #[.agg #[.slice none 0 0,.bool false,.int .i64 0,.slice none 0 0],.int .i64 E])→Below w.heap.size w w'→∃LL cl TT tc,e = .returned (.tuple #[.agg #[.slice LL (bL M most xs ls).length cl,.bool (bG M most xs ls),.int .i64 (bM M most xs ls),.slice TT (bX M most xs ls).length tc],.int .i64 (bE M most xs ls)])∧Below w.heap.size w w'∧EnvF w' (fF LL (bL M most xs ls).length (bL M most xs ls)::fF TT (bX M most xs ls).length (bX M most xs ls)::fs) gs∧(LL=none→cl=0)∧(TT=none→tc=0):=by
  intro E hE h0 e w' he hb
  have h1:bL M most xs ls=[]:=by unfold bL;rw[hE,if_neg h0]
  have h2:bX M most xs ls=[]:=by unfold bX;rw[hE,if_neg h0]
  have h3:bM M most xs ls=0:=by unfold bM;rw[hE,if_neg h0]
  have h4:bG M most xs ls=false:=by unfold bG;rw[hE,decide_eq_false h0,Bool.false_and]
  rw[h1,h2,h3,h4,hE]
  exact⟨none,0,none,0,he,hb,env_nil (env_nil (hV.on hb)),fun _=>rfl,fun _=>rfl⟩
 by_cases h:okA M most xs=true
 ·by_cases hz:(bZ most ⟨M,xs,ls⟩).1=0
  ·obtain⟨s0,hs0⟩ : ∃s0,(bZ most ⟨M,xs,ls⟩).2=s0:=⟨_,rfl⟩
   have hl0:s0.ls.length≤ls.length:=by
    have h1:=zs_less (most:=most) ls.length ⟨M,xs,ls⟩
    rw[←hs0]
    exact h1
   have hbN:bN most ⟨M,xs,ls⟩=rn ls.length s0:=by unfold bN;rw[hs0]
   have hbE:bE M most xs ls=(rn ls.length s0).1:=by unfold bE;rw[if_neg (by rw[h];exact Bool.noConfusion),if_neg (by omega),hbN]
   refine(u_Block_go w hV hL hlc hLN hA hN hS hR hM hF hn h s0 hs0 hz).mono ?_
   rintro e w' (⟨k,hok,hl,hq,he,hb⟩ | ⟨k,LL,cl,TT,tc,hok,hl,he,hb,hE,hcl,htc⟩)
   ·exact bad (hbE.trans (by rw[rn_bad k _ _ hl0 hok hl hq])) hq he hb
   ·have hr:=rn_end k _ _ hl0 hok hl
    rw[hr] at hbN hbE
    have h1:bL M most xs ls=keep 2000 (FL s0 k):=by unfold bL bAll;rw[hbE,if_pos rfl,hbN]
    have h2:bX M most xs ls=(aft s0 k).xs:=by unfold bX;rw[hbE,if_pos rfl,hbN]
    have h3:bM M most xs ls=(aft s0 k).M:=by unfold bM;rw[hbE,if_pos rfl,hbN]
    have h4:bG M most xs ls=decide (2000<full (FL s0 k)):=by unfold bG bAll;rw[hbE,hbN];simp
    rw[h1,h2,h3,h4,hbE]
    exact⟨LL,cl,TT,tc,he,hb,hE,hcl,htc⟩
  ·refine(u_Block_sz w hV hL hlc hLN hA hN hS hR hM hF hn h hz).mono ?_
   rintro e w' ⟨he,hb⟩
   exact bad (by unfold bE;rw[if_neg (by rw[h];exact Bool.noConfusion),if_pos hz]) hz he hb
 ·have h':okA M most xs=false:=by simpa using h
  refine(u_Block_no LA ln lc w (hV.fs hA) hN (by omega) h').mono ?_
  rintro e w' ⟨he,hb⟩
  exact bad (by unfold bE;rw[if_pos h']) (by omega) he hb
end Go.Proofs.YtahiajeggbpogaaGreatDoor
set_option maxRecDepth 100000
set_option maxHeartbeats 4000000
namespace Go.Proofs.YtahiajeggbpogaaGreatDoor
open Go.RowKit Go.Shelf Px Tx Tb Up
set_option linter.unusedVariables false
set_option linter.unusedSimpArgs false
attribute [local go_sem] Oper.semAt_some
def Up.sameU(xs:List Fd)(g:Bool)(M:Int)(xs':List Fd)(ys:List Fd)(h:Bool)(N:Int)(ys':List Fd):Bool:=sameB 0 xs 0 ys&&(g==h)&&sameB M xs' N ys'
theorem u_Same(LA LB TA TB:Option Addr)(ln lc lm ld tn tc tm td:Nat)(g h:Bool)(M N:Int)(xs ys xs' ys':List Fd)(w:World)(h1:Fs w w.heap.size LA ln xs)(h2:Fs w w.heap.size LB lm ys)(h3:Fs w w.heap.size TA tn xs')(h4:Fs w w.heap.size TB tm ys')(n1:ln≤1000000)(n2:tn≤1000000) :
  Calls Tryz.prog 22 #[.agg #[.slice LA ln lc,.bool g,.int .i64 M,.slice TA tn tc],.agg #[.slice LB lm ld,.bool h,.int .i64 N,.slice TB tm td]] w fun e w'=>e = .returned (.bool (sameU xs g M xs' ys h N ys'))∧Below w.heap.size w w':=by
 obtain⟨w0,hw0⟩ : ∃w0,(w.alloc (.cells #[.slice LA ln lc,.bool g,.int .i64 M,.slice TA tn tc] 31)).alloc (.cells #[.slice LB lm ld,.bool h,.int .i64 N,.slice TB tm td] 31)=w0:=⟨_,rfl⟩
 have K0:Hid (EnvF w0 [fF TB tm ys',fF TA tn xs',fF LB lm ys,fF LA ln xs] [(w.heap.size+1,#[.slice LB lm ld,.bool h,.int .i64 N,.slice TB tm td],31),(w.heap.size,#[.slice LA ln lc,.bool g,.int .i64 M,.slice TA tn tc],31)]):=Lib.hid (hw0 ▸ ((((((EnvF.nil w).addF h1).addF h2).addF h3).addF h4).boxg 31 #[.slice LA ln lc,.bool g,.int .i64 M,.slice TA tn tc] w.heap.size rfl).boxg 31 #[.slice LB lm ld,.bool h,.int .i64 N,.slice TB tm td] (w.heap.size+1) (by simp))
 have G0:Hid (Below w.heap.size w w0):=Lib.hid (hw0 ▸ ((Below.refl w.heap.size w).alloc (Nat.le_refl _) _).alloc (by simp) _)
 have HS1:=Lib.hid (t_same 0 0 LA LB ln lm lc ld xs ys w0 (K0.out.fs (A:=LA) (n:=ln) (xs:=xs) (by simp)) (K0.out.fs (A:=LB) (n:=lm) (xs:=ys) (by simp)) n1)
 have HS2:=Lib.hid (fun W (hb:Below w0.heap.size w0 W)=>t_same M N TA TB tn tm tc td xs' ys' W ((K0.out.on hb).fs (A:=TA) (n:=tn) (xs:=xs') (by simp)) ((K0.out.on hb).fs (A:=TB) (n:=tm) (xs:=ys') (by simp)) n2)
 unfold sameU
 generalize sameB 0 xs 0 ys=s1 at *
 generalize sameB M xs' N ys'=s2 at *
 have hz:w.heap.size≤w0.heap.size:=G0.out.size
 clear h1 h2 h3 h4 n1 n2
 go_enter Tryz.func22,Tryz.ntmps22
 go_wp2_with (first
  | go_skip
  | (refine at_load 22 (.tmp 6) (by rfl) ?_;refine wpListG_get (by rfl) 22 (.tmp 6) (by rfl) w.heap.size 0 (by rfl) 31 #[.slice LA ln lc,.bool g,.int .i64 M,.slice TA tn tc] (.slice LA ln lc) _ (K0.out.row 1 rfl) (by rfl) Tryz.underlying22 (by rfl) ?_)
  | (refine at_load 22 (.tmp 9) (by rfl) ?_;refine wpListG_get (by rfl) 22 (.tmp 9) (by rfl) (w.heap.size+1) 0 (by rfl) 31 #[.slice LB lm ld,.bool h,.int .i64 N,.slice TB tm td] (.slice LB lm ld) _ (K0.out.row 0 rfl) (by rfl) Tryz.underlying22 (by rfl) ?_)
  | (go_at_call 53;(with_reducible refine HS1.out.mono ?_);rintro e w1 ⟨rfl,hb⟩;have D1:=Lib.hid hb;clear hb HS1;refine Hid.out ?_))
 refine Lib.hid ?_
 obtain⟨ca0,ca1,ca2,ca3⟩:=cells4_row ((K0.out.on D1.out).row 1 rfl)
 obtain⟨cb0,cb1,cb2,cb3⟩:=cells4_row ((K0.out.on D1.out).row 0 rfl)
 cases s1<;>cases g<;>cases h
 all_goals
  go_wp2_with (first
   | go_skip
   | (go_at_call 53;(with_reducible refine(HS2.out _ D1.out).mono ?_);rintro e w2 ⟨rfl,hb⟩;have D2:=Lib.hid (below_step D1.out hb);clear hb))
 all_goals
  go_ret
  first
  | exact⟨rfl,G0.out.trans (D2.out.mono hz)⟩
  | exact⟨rfl,G0.out.trans (D1.out.mono hz)⟩
end Go.Proofs.YtahiajeggbpogaaGreatDoor
