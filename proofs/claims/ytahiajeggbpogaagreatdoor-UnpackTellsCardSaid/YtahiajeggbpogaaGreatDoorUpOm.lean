import Derived.Test.YtahiajeggbpogaaGreatDoorUpS
set_option maxRecDepth 100000
set_option maxHeartbeats 4000000
namespace Go.Proofs.YtahiajeggbpogaaGreatDoor
open Go.RowKit Go.Shelf Px Tx Tb Up
set_option linter.unusedVariables false
set_option linter.unusedSimpArgs false
theorem v_Fields(A A':Option Addr)(n n' c c':Nat)(xs ys:List Fd)(w:World)(hA:Fs w w.heap.size A n xs)(hA':Fs w w.heap.size A' n' ys)(hn:n≤1000000) :
  Calls Tryz.prog 45 #[.slice A n c,.slice A' n' c'] w fun e w'=>e = .returned (.bool (decide (xs=ys)))∧Below w.heap.size w w':=by
 have hl:=hA.1
 have hl':=hA'.1
 by_cases hne:n=n'
 ·subst hne
  have HA:=Lib.hid hA
  have HA':=Lib.hid hA'
  clear hA hA'
  go_enter Tryz.func45,Tryz.ntmps45
  go_wp2
  go_loopw [5] (fun t wr=>∃j:Nat,j≤n∧t = .int .i64 j∧xs.take j=ys.take j∧Below w.heap.size w wr) (fun t _=>n-(intOf t).toNat)
  case atStart=>exact⟨0,Nat.zero_le _,rfl,rfl,Below.refl _ _⟩
  case round=>
   obtain⟨j,hj,rfl,hsame,hbel⟩:=hrel
   have HS:=Lib.hid hsame
   have B1:=Lib.hid hbel
   clear hsame hbel
   by_cases hlt:j<n
   ·skip
    obtain⟨b,o,rfl,hb,hcc⟩:=fs_cell ((HA.out.below B1.out).more B1.out.size) (by omega)
    obtain⟨x,hx,h1,h2⟩:=hcc j hlt
    obtain⟨b',o',rfl,hb',hcc'⟩:=fs_cell ((HA'.out.below B1.out).more B1.out.size) (by omega)
    obtain⟨y,hy,h1',h2'⟩:=hcc' j hlt
    rw[←Nat.add_assoc] at h2 h2'
    clear hcc hcc'
    go_wp2
    rcases fd_ways x y with rfl | ⟨hxy,n1⟩ | ⟨hxy,n1,n2⟩
    ·have HT:=Lib.hid (same_take hx hy HS.out)
     go_region
     go_wp2
     go_roundw
     case rel=>exact⟨j+1,by omega,by go_num,HT.out,B1.out.drew⟩
     case measure=>simp[intOf];omega
    ·have HE:=Lib.hid (ne_at hx hy hxy)
     go_region
     go_wp2
     go_ret
     exact⟨retb HE.out.symm,B1.out.drew⟩
    ·have HE:=Lib.hid (ne_at hx hy hxy)
     go_region
     go_wp2
     go_ret
     exact⟨retb HE.out.symm,B1.out.drew⟩
   ·obtain rfl:j=n:=by omega
    go_wp2
    go_ret
    exact⟨retb (eq_take hl hl' HS.out).symm,B1.out⟩
 ·have hb:decide (xs=ys)=false:=ne_len (by omega)
  rw[hb]
  have d:((n:Int) != (n':Int))=true:=by simp;omega
  clear hA hA' hb
  go_enter Tryz.func45,Tryz.ntmps45
  go_wp2
  go_ret
  exact⟨rfl,Below.refl _ _⟩
theorem v_same(A A':Option Addr)(n n' c c':Nat)(B B':Nat)(xs ys:List UInt8)(w:World)(hA:Bs w B A n xs)(hA':Bs w B' A' n' ys) :
  Calls Tryz.prog 17 #[.slice A n c,.slice A' n' c'] w fun e w'=>e = .returned (.bool (xs==ys))∧w=w':=by
 have h1:=conv_bytes (c:=c) hA
 have h2:=conv_bytes (c:=c') hA'
 clear hA hA'
 go_enter Tryz.func17,Tryz.ntmps17
 go_wp2
 go_ret
 exact⟨rfl,rfl⟩
namespace Up
def grB(xs:List Fd):Bool:=decide (200<xs.length)||decide (9000<byts (xs.take 201))
theorem gr_end{xs:List Fd}{j:Nat}(h:j=xs.length∧j≤201∨j=201∧j≤xs.length):xs.take j=xs.take 201:=by
 rcases h with ⟨rfl,h⟩ | ⟨rfl,_⟩
 ·rw[List.take_length,List.take_of_length_le h]
 ·rfl
theorem gr_full{xs:List Fd}(h:grB xs=false):xs.length≤200∧full xs≤15400:=by
 unfold grB at h
 simp only[Bool.or_eq_false_iff,decide_eq_false_iff_not] at h
 have h1:xs.length≤200:=by omega
 refine⟨h1,?_⟩
 have h2:=h.2
 rw[List.take_of_length_le (by omega)] at h2
 unfold byts at h2
 omega
end Up
theorem v_Great(M:Int)(A:Option Addr)(n c:Nat)(xs:List Fd)(w:World)(hA:Fs w w.heap.size A n xs)(hn2:n≤c)(hcm:c≤maxLen)(hS : ∀x∈xs,x.1.size≤140737488355328∧x.2.size≤140737488355328) :
  Calls Tryz.prog 6 #[.agg #[.int .i64 M,.slice A n c]] w fun e w'=>e = .returned (.bool (grB xs))∧Below w.heap.size w w':=by
 have hn:=hA.1
 have K0:Hid (EnvF (w.alloc (.cells #[.int .i64 M,.slice A n c] 24)) [fF A n xs] [(w.heap.size,#[.int .i64 M,.slice A n c],24)]):=Lib.hid (((EnvF.nil w).addF hA).boxg 24 #[.int .i64 M,.slice A n c] (w.heap.size) (by simp))
 have B0:Hid (Below w.heap.size w (w.alloc (.cells #[.int .i64 M,.slice A n c] 24))):=Lib.hid ((Below.refl _ w).alloc (Nat.le_refl _) (.cells #[.int .i64 M,.slice A n c] 24))
 have HS:=Lib.hid hS
 have hcm2:n≤9223372036854775807:=by unfold maxLen at hcm;omega
 clear hA hS hcm
 go_enter Tryz.func6,Tryz.ntmps6
 go_wp2
 go_loopw [3,4] (fun t u wr=>∃j:Nat,j≤n∧j≤201∧t = .int .i64 (byts (xs.take j):Int)∧u = .int .i64 j∧EnvF wr [fF A n xs] [(w.heap.size,#[.int .i64 M,.slice A n c],24)]∧Below w.heap.size w wr) (fun _ u _=>n-(intOf u).toNat)
 case atStart=>exact⟨0,Nat.zero_le _,by omega,rfl,rfl,K0.out,B0.out⟩
 case round=>
  obtain⟨j,hj,hj2,rfl,rfl,hk,hbel⟩:=hrel
  have K1:=Lib.hid hk
  obtain⟨c0,c1⟩:=cells2_row (hk.row 0 rfl)
  have B1:=Lib.hid hbel
  have hby:=byts_take xs HS.out j (by omega)
  clear hbel hk K0 B0
  by_cases hend:j=n∨j=201
  ·have HT:=Lib.hid (gr_end (xs:=xs) (j:=j) (by omega))
   have hgb:grB xs=(decide (200<xs.length)||decide (9000<byts (xs.take j))):=by unfold grB;rw[HT.out]
   have HGB:=Lib.hid hgb
   clear hgb
   rcases Nat.lt_or_ge 200 n with h200 | h200
   ·have d3:decide ((200:Int)<(n:Int))=true:=decide_eq_true (by omega)
    have d4:decide (200<xs.length)=true:=decide_eq_true (by omega)
    rcases Nat.lt_or_ge j n with h1 | h1
    ·obtain rfl:j=201:=by omega
     have d1:decide ((201:Int)<(n:Int))=true:=decide_eq_true (by omega)
     go_wp2
     go_ret
     exact⟨(by rw[HGB.out,d4];rfl),B1.out⟩
    ·obtain rfl:j=n:=by omega
     go_wp2
     go_ret
     exact⟨(by rw[HGB.out,d4];rfl),B1.out⟩
   ·obtain rfl:j=n:=by omega
    have d3:decide ((200:Int)<(j:Int))=false:=decide_eq_false (by omega)
    have d4:decide (200<xs.length)=false:=decide_eq_false (by omega)
    have d5:decide ((9000:Int)<(byts (xs.take j):Int))=decide (9000<byts (xs.take j)):=by
     by_cases h:9000<byts (xs.take j)
     ·rw[decide_eq_true h,decide_eq_true (by omega)]
     ·rw[decide_eq_false h,decide_eq_false (by omega)]
    have D5:=Lib.hid d5
    clear d5
    go_wp2
    go_ret
    exact⟨(by rw[HGB.out,d4,←D5.out];rfl),B1.out⟩
  ·have hlt:j<n:=by omega
   have hle:j≤200:=by omega
   obtain⟨b,o,rfl,hb,hcc⟩:=fs_cell (K1.out.fs (A:=A) (n:=n) (xs:=xs) (by simp)) (by omega)
   obtain⟨x,hx,h1,h2⟩:=hcc j hlt
   rw[←Nat.add_assoc] at h2
   clear hcc
   have hs:=byts_succ hx
   have hxs:=HS.out x (List.mem_of_getElem? hx)
   have HSS:=Lib.hid hs
   have d1:decide ((j:Int)≤200)=true:=decide_eq_true (by omega)
   clear hend hs
   go_wp2
   go_region
   go_wp2
   go_roundw
   case rel=>exact⟨j+1,by omega,by omega,by rw[HSS.out];go_num,by go_num,K1.out.drew,B1.out.drew⟩
   case measure=>simp[intOf];omega
end Go.Proofs.YtahiajeggbpogaaGreatDoor
namespace Go.Proofs.YtahiajeggbpogaaGreatDoor.Up
open Go.RowKit Px Tx Tb
abbrev ga:Fd:=(⟨#[97]⟩,⟨#[49]⟩)
abbrev gpost:Fd:=(⟨#[58,109,101,116,104,111,100]⟩,⟨#[80,79,83,84]⟩)
theorem z_a:bE 100 100 [] [130]=0∧bL 100 100 [] [130]=[gpost]∧bG 100 100 [] [130]=false∧bM 100 100 [] [130]=100∧bX 100 100 [] [130]=[]:=by decide +kernel
theorem z_b:bE 100 100 [] [64,1,97,1,49]=0∧bL 100 100 [] [64,1,97,1,49]=[ga]∧bG 100 100 [] [64,1,97,1,49]=false∧bM 100 100 [] [64,1,97,1,49]=100∧bX 100 100 [] [64,1,97,1,49]=[ga]:=by decide +kernel
theorem z_c:bE 100 100 [] [128]=90∧bL 100 100 [] [128]=[]∧bG 100 100 [] [128]=false∧bM 100 100 [] [128]=0∧bX 100 100 [] [128]=[]:=by decide +kernel
theorem z_d:bE 100 100 [] [130,32]=100∧bL 100 100 [] [130,32]=[]∧bG 100 100 [] [130,32]=false∧bM 100 100 [] [130,32]=0∧bX 100 100 [] [130,32]=[]:=by decide +kernel
theorem z_e:bE 100 100 [ga] [32]=0∧bL 100 100 [ga] [32]=[]∧bG 100 100 [ga] [32]=false∧bM 100 100 [ga] [32]=0∧bX 100 100 [ga] [32]=[]:=by decide +kernel
theorem z_f:bE 100 100 [] [63,70]=100∧bL 100 100 [] [63,70]=[]∧bG 100 100 [] [63,70]=false∧bM 100 100 [] [63,70]=0∧bX 100 100 [] [63,70]=[]:=by decide +kernel
theorem z_g:putL 2 7 128=[130]∧putE 2 7=0:=by decide +kernel
theorem be_2:beB [50]=[1,50]:=by unfold beB;rw[if_neg (by decide +kernel)];decide +kernel
theorem z_h:nmL 21 [50] 2=[31,6,1,50]∧nmE 21 2=0:=by
 refine⟨?_,by decide +kernel⟩
 unfold nmL
 rw[if_neg (by decide),be_2]
 decide +kernel
theorem z_s:sameU [gpost] false 100 [] [gpost] false 100 []=true∧sameU [gpost] false 100 [] [ga] false 100 [ga]=false∧full [ga]=34:=by decide +kernel
end Go.Proofs.YtahiajeggbpogaaGreatDoor.Up
set_option maxRecDepth 100000
set_option maxHeartbeats 4000000
namespace Go.Proofs.YtahiajeggbpogaaGreatDoor
open Go.RowKit Go.Shelf Px Tx Tb Up
set_option linter.unusedVariables false
set_option linter.unusedSimpArgs false
attribute [local go_sem] Oper.semAt_some
theorem d_Same(LA LB TA TB:Option Addr)(ln lc lm ld tn tc tm td:Nat)(g h:Bool)(M N:Int)(xs ys xs' ys':List Fd)(w:World)(h1:Fs w w.heap.size LA ln xs)(h2:Fs w w.heap.size LB lm ys)(h3:Fs w w.heap.size TA tn xs')(h4:Fs w w.heap.size TB tm ys')(n1:ln≤1000000)(n2:tn≤1000000) :
  Calls Tryz.prog 10 #[.agg #[.slice LA ln lc,.bool g,.int .i64 M,.slice TA tn tc],.agg #[.slice LB lm ld,.bool h,.int .i64 N,.slice TB tm td]] w fun e w'=>e = .returned (.bool (sameU xs g M xs' ys h N ys'))∧Below w.heap.size w w':=by
 obtain⟨w0,hw0⟩ : ∃w0,(w.alloc (.cells #[.slice LA ln lc,.bool g,.int .i64 M,.slice TA tn tc] 31)).alloc (.cells #[.slice LB lm ld,.bool h,.int .i64 N,.slice TB tm td] 31)=w0:=⟨_,rfl⟩
 have K0:Hid (EnvF w0 [fF TB tm ys',fF TA tn xs',fF LB lm ys,fF LA ln xs] [(w.heap.size+1,#[.slice LB lm ld,.bool h,.int .i64 N,.slice TB tm td],31),(w.heap.size,#[.slice LA ln lc,.bool g,.int .i64 M,.slice TA tn tc],31)]):=Lib.hid (hw0 ▸ ((((((EnvF.nil w).addF h1).addF h2).addF h3).addF h4).boxg 31 #[.slice LA ln lc,.bool g,.int .i64 M,.slice TA tn tc] w.heap.size rfl).boxg 31 #[.slice LB lm ld,.bool h,.int .i64 N,.slice TB tm td] (w.heap.size+1) (by simp))
 have G0:Hid (Below w.heap.size w w0):=Lib.hid (hw0 ▸ ((Below.refl w.heap.size w).alloc (Nat.le_refl _) _).alloc (by simp) _)
 have HS1:=Lib.hid (v_Fields LA LB ln lm lc ld xs ys w0 (K0.out.fs (A:=LA) (n:=ln) (xs:=xs) (by simp)) (K0.out.fs (A:=LB) (n:=lm) (xs:=ys) (by simp)) n1)
 have HS2:=Lib.hid (fun W (hb:Below w0.heap.size w0 W)=>r_same M N TA TB tn tm tc td xs' ys' W ((K0.out.on hb).fs (A:=TA) (n:=tn) (xs:=xs') (by simp)) ((K0.out.on hb).fs (A:=TB) (n:=tm) (xs:=ys') (by simp)) n2)
 have e0:sameB 0 xs 0 ys=decide (xs=ys):=by unfold sameB;simp
 unfold sameU
 rw[e0]
 clear e0
 generalize decide (xs=ys)=s1 at *
 generalize sameB M xs' N ys'=s2 at *
 have hz:w.heap.size≤w0.heap.size:=G0.out.size
 clear h1 h2 h3 h4 n1 n2
 go_enter Tryz.func10,Tryz.ntmps10
 go_wp2_with (first
  | go_skip
  | (refine at_load 22 (.tmp 5) (by rfl) ?_;refine wpListG_get (by rfl) 22 (.tmp 5) (by rfl) w.heap.size 0 (by rfl) 31 #[.slice LA ln lc,.bool g,.int .i64 M,.slice TA tn tc] (.slice LA ln lc) _ (K0.out.row 1 rfl) (by rfl) Tryz.underlying22 (by rfl) ?_)
  | (refine at_load 22 (.tmp 7) (by rfl) ?_;refine wpListG_get (by rfl) 22 (.tmp 7) (by rfl) (w.heap.size+1) 0 (by rfl) 31 #[.slice LB lm ld,.bool h,.int .i64 N,.slice TB tm td] (.slice LB lm ld) _ (K0.out.row 0 rfl) (by rfl) Tryz.underlying22 (by rfl) ?_)
  | (go_at_call 45;(with_reducible refine HS1.out.mono ?_);rintro e w1 ⟨rfl,hb⟩;have D1:=Lib.hid hb;clear hb HS1;refine Hid.out ?_))
 refine Lib.hid ?_
 obtain⟨ca0,ca1,ca2,ca3⟩:=cells4_row ((K0.out.on D1.out).row 1 rfl)
 obtain⟨cb0,cb1,cb2,cb3⟩:=cells4_row ((K0.out.on D1.out).row 0 rfl)
 cases s1<;>cases g<;>cases h
 all_goals
  go_wp2_with (first
   | go_skip
   | (go_at_call 29;(with_reducible refine(HS2.out _ D1.out).mono ?_);rintro e w2 ⟨rfl,hb⟩;have D2:=Lib.hid (below_step D1.out hb);clear hb))
 all_goals
  go_ret
  first
  | exact⟨rfl,G0.out.trans (D2.out.mono hz)⟩
  | exact⟨rfl,G0.out.trans (D1.out.mono hz)⟩
end Go.Proofs.YtahiajeggbpogaaGreatDoor
