import Derived.Test.YtahiajeggbpogaaGreatDoorUpOi
import Derived.Test.YtahiajeggbpogaaGreatDoorUpLb
import Derived.Test.YtahiajeggbpogaaGreatDoorUpOn
import Derived.Test.YtahiajeggbpogaaGreatDoorUpOk
import Derived.Test.YtahiajeggbpogaaGreatDoorUpOl
import Derived.Test.YtahiajeggbpogaaGreatDoorUpOm
namespace Go.Proofs.YtahiajeggbpogaaGreatDoor
open Go.RowKit Go.Shelf Px Tx Tb Up GD
set_option linter.unusedVariables false
set_option linter.unusedSimpArgs false
theorem d_call{fs:List Fact}{gs:List Bx}{M most:Int}{A:Option Addr}{n c:Nat}{xs:List Fd}{LA:Option Addr}{ln lc:Nat}{ls:List UInt8}{E:Int}{nl:Nat}{L:List Fd}{G:Bool}{N:Int}{nt:Nat}{X:List Fd}(w:World)(hk:BK M most xs ls E nl L G N nt X)(hV:EnvF w fs gs)(hL:bF LA ln ls∈fs)(hLN:LA=none→lc=0)(hA:fF A n xs∈fs)(hN:A=none→c=0)(hF:full xs≤20000)(hn:ln≤3000) :
  Calls Tryz.prog 9 #[.agg #[.int .i64 M,.slice A n c],.int .i64 most,.slice LA ln lc] w fun e w'=>∃LL cl TT tc,e = .returned (.tuple #[.agg #[.slice LL nl cl,.bool G,.int .i64 N,.slice TT nt tc],.int .i64 E])∧Below w.heap.size w w'∧EnvF w' (fF LL nl L::fF TT nt X::fs) gs∧(LL=none→cl=0)∧(TT=none→tc=0):=by
 obtain⟨rfl,rfl,rfl,rfl,rfl,rfl,rfl⟩:=hk
 have bad : ∀{E:Int},bE M most xs ls=E→E≠0→∀{e:Ending} {w':World},e = .returned (.tuple #[.agg #[.slice none 0 0,.bool false,.int .i64 0,.slice none 0 0],.int .i64 E])→Below w.heap.size w w'→∃LL cl TT tc,e = .returned (.tuple #[.agg #[.slice LL (bL M most xs ls).length cl,.bool (bG M most xs ls),.int .i64 (bM M most xs ls),.slice TT (bX M most xs ls).length tc],.int .i64 (bE M most xs ls)])∧Below w.heap.size w w'∧EnvF w' (fF LL (bL M most xs ls).length (bL M most xs ls)::fF TT (bX M most xs ls).length (bX M most xs ls)::fs) gs∧(LL=none→cl=0)∧(TT=none→tc=0):=by
  intro E hE h0 e w' he hb
  have h1:bL M most xs ls=[]:=by unfold bL;rw[hE,if_neg h0]
  have h2:bX M most xs ls=[]:=by unfold bX;rw[hE,if_neg h0]
  have h3:bM M most xs ls=0:=by unfold bM;rw[hE,if_neg h0]
  have h4:bG M most xs ls=false:=by unfold bG;rw[hE,decide_eq_false h0,Bool.false_and]
  rw[h1,h2,h3,h4,hE]
  exact⟨none,0,none,0,he,hb,env_nil (env_nil (hV.on hb)),fun _=>rfl,fun _=>rfl⟩
 have hR : ∀b,rightB M xs=b→Hid (∀w0:World,Fs w0 w0.heap.size A n xs→Calls Tryz.prog 36 #[.agg #[.int .i64 M,.slice A n c]] w0 fun e w'=>e = .returned (.bool b)∧Below w0.heap.size w0 w'):=fun b hb=>Lib.hid fun w0 h=>by
  rw[←hb]
  exact r_right M A n c xs w0 h (by omega)
 by_cases hr:rightB M xs=true
 ·by_cases h0:most<0
  ·refine(d_blk_m0 M most A n c xs LA ln lc ls w hV hA (hR _ hr) h0).mono ?_
   rintro e w' ⟨he,hb⟩
   exact bad (by unfold bE okA okB;rw[hr,decide_eq_false (by omega)];rfl) (by omega) he hb
  ·by_cases h1:4096<most
   ·refine(d_blk_m1 M most A n c xs LA ln lc ls w hV hA (hR _ hr) (by omega) h1).mono ?_
    rintro e w' ⟨he,hb⟩
    exact bad (by unfold bE okA okB;rw[hr,decide_eq_false (p:=most≤4096) (by omega),Bool.and_false];rfl) (by omega) he hb
   ·have ho:okA M most xs=true:=by unfold okA okB;rw[hr,decide_eq_true (by omega),decide_eq_true (by omega)];rfl
    obtain⟨e1,e2⟩:=d_block (ls:=ls) ho
    obtain⟨⟨E0,T0,s0⟩,hdn⟩ : ∃r,dn most ls.length ⟨M,xs,ls⟩ []=r:=⟨_,rfl⟩
    rw[hdn] at e1 e2
    simp only at e1 e2
    refine(d_blk_go M most A n c xs LA ln lc ls w hV hA (hR _ hr) hL hLN hN hF hn hr (by omega) (by omega) E0 T0 s0 hdn).mono ?_
    rintro e w' (⟨hz,he,hb⟩ | ⟨rfl,LL,cl,TT,tc,he,hb,hE,hcl,htc⟩)
    ·exact bad e1 hz he hb
    ·obtain⟨f1,f2,f3⟩:=e2 e1
     have g1:bL M most xs ls=keep 2000 T0:=by unfold bL;rw[e1,if_pos rfl,f1]
     have g4:bG M most xs ls=decide (2000<full T0):=by unfold bG;rw[e1,f1];simp
     rw[g1,f2,f3,g4,e1]
     exact⟨LL,cl,TT,tc,he,hb,hE,hcl,htc⟩
 ·have h':rightB M xs=false:=by simpa using hr
  refine(d_blk_r M most A n c xs LA ln lc ls w hV hA (hR _ h')).mono ?_
  rintro e w' ⟨he,hb⟩
  exact bad (by unfold bE okA;rw[h',Bool.false_and,if_pos rfl]) (by omega) he hb
end Go.Proofs.YtahiajeggbpogaaGreatDoor
set_option maxRecDepth 100000
set_option maxHeartbeats 4000000
namespace Go.Proofs.YtahiajeggbpogaaGreatDoor
open Go.RowKit Go.Shelf Px Tx Tb Up GD
set_option linter.unusedVariables false
set_option linter.unusedSimpArgs false
attribute [local go_sem] Oper.semAt_some
theorem d_Field(a b:List UInt8)(way:Int)(w:World)(ha:a.length≤10000)(hb:b.length≤10000) :
  Calls Tryz.prog 19 #[.agg #[.string ⟨a.toArray⟩,.string ⟨b.toArray⟩],.int .i64 way] w fun e w'=>∃A c,e = .returned (.slice A (fldL a b way).length c)∧OwnB w' w.heap.size 5 (.slice A (fldL a b way).length c) (fldL a b way)∧Below w.heap.size w w':=by
 have hla:=be_len ha
 have hlb:=be_len hb
 have hlp:=putL_len 0 (wR way) (wU way)
 obtain⟨n0,e0⟩ : ∃n,(putL 0 (wR way) (wU way)).length=n:=⟨_,rfl⟩
 obtain⟨n1,e1⟩ : ∃n,(beB a).length=n:=⟨_,rfl⟩
 obtain⟨n2,e2⟩ : ∃n,(beB b).length=n:=⟨_,rfl⟩
 have HB1:=Lib.hid (fun W=>y_Best a W ha)
 have HB2:=Lib.hid (fun W=>y_Best b W hb)
 have HP:=Lib.hid (fun W=>d_first 0 way W)
 unfold fldL
 unfold PutD at HP
 simp only[e0] at HP
 simp only[e1] at HB1
 simp only[e2] at HB2
 have K0:Hid (EnvF (w.alloc (.cells #[.string ⟨a.toArray⟩,.string ⟨b.toArray⟩] 27)) [] [(w.heap.size,#[.string ⟨a.toArray⟩,.string ⟨b.toArray⟩],27)]):=Lib.hid ((EnvF.nil w).boxg 27 #[.string ⟨a.toArray⟩,.string ⟨b.toArray⟩] w.heap.size rfl)
 have G0:Hid (Below w.heap.size w (w.alloc (.cells #[.string ⟨a.toArray⟩,.string ⟨b.toArray⟩] 27))):=Lib.hid ((Below.refl w.heap.size w).alloc (Nat.le_refl _) _)
 generalize beB a=la at *
 generalize beB b=lz at *
 generalize putL 0 (wR way) (wU way)=pl at *
 generalize putE 0 (wR way)=pe at *
 clear ha hb
 go_enter Tryz.func19,Tryz.ntmps19
 go_wp2_with (first
  | (go_at_call 50;(with_reducible refine(HP.out _).mono ?_);rintro e w1 ⟨P0,c0,rfl,ho,hb⟩;obtain⟨lb,hlb2,K1'⟩:=bbox_hand (gs:=[(w.heap.size,#[.string ⟨a.toArray⟩,.string ⟨b.toArray⟩],27)]) K0.out hb ho (Nat.le_refl _);have K1:=Lib.hid K1';have HLB:=Lib.hid hlb2;have B1:=Lib.hid hb;clear hb ho hlb2 K1')
  | go_skip)
 refine fo2_region (k:=0) rfl HLB.out B1.out.size HB1 HB2 (by omega) (by omega) (by omega) (by omega) (fun A1 A2 c1 c2 V1 V2 lb2 w2 K2 hl2 B2=>?_) K1.out (Below.refl _ _)
 obtain⟨A,c,rfl,h3⟩:=hl2.form K2
 have KK2:=Lib.hid K2
 have HL2:=Lib.hid hl2
 have BB2:=Lib.hid B2
 clear K2 hl2 B2
 go_wp2
 go_ret
 exact⟨A,c,rfl,(HL2.out.own KK2.out (fun y hy=>List.mem_append_right _ hy)).less (by simp),G0.out.trans ((B1.out.trans BB2.out).mono (by simp))⟩
end Go.Proofs.YtahiajeggbpogaaGreatDoor
set_option maxRecDepth 100000
set_option maxHeartbeats 4000000
namespace Go.Proofs.YtahiajeggbpogaaGreatDoor
open Go.RowKit Go.Shelf Px Tx Tb Up
set_option linter.unusedVariables false
set_option linter.unusedSimpArgs false
attribute [local go_sem] Oper.semAt_some
theorem t_fullG(M:Int)(A:Option Addr)(n c:Nat)(xs:List Fd)(w:World)(hA:Fs w w.heap.size A n xs)(hF:full xs≤4000000000000000000) :
  Calls Tryz.prog 52 #[.agg #[.int .i64 M,.slice A n c]] w fun e w'=>e = .returned (.int .i64 (full xs:Int))∧Below w.heap.size w w':=by
 have hn:=hA.1
 have hfl:=full_len xs
 have K0:Hid (EnvF (w.alloc (.cells #[.int .i64 M,.slice A n c] 24)) [fF A n xs] [(w.heap.size,#[.int .i64 M,.slice A n c],24)]):=Lib.hid (((EnvF.nil w).addF hA).boxg 24 #[.int .i64 M,.slice A n c] (w.heap.size) (by simp))
 have B0:Hid (Below w.heap.size w (w.alloc (.cells #[.int .i64 M,.slice A n c] 24))):=Lib.hid ((Below.refl _ w).alloc (Nat.le_refl _) (.cells #[.int .i64 M,.slice A n c] 24))
 clear hA
 go_enter Tryz.func52,Tryz.ntmps52
 go_wp2
 go_loopw [3,9] (fun t u wr=>∃j:Nat,j≤n∧t = .int .i64 (full (xs.take j):Int)∧u = .int .i64 j∧EnvF wr [fF A n xs] [(w.heap.size,#[.int .i64 M,.slice A n c],24)]∧Below w.heap.size w wr) (fun _ u _=>n-(intOf u).toNat)
 case atStart=>exact⟨0,Nat.zero_le _,rfl,rfl,K0.out,B0.out⟩
 case round=>
  obtain⟨j,hj,rfl,rfl,hk,hbel⟩:=hrel
  have K1:=Lib.hid hk
  have B1:=Lib.hid hbel
  clear hk hbel K0 B0
  by_cases hlt:j<n
  ·
   obtain⟨b,o,rfl,hb,hcc⟩:=fs_cell (K1.out.fs (A:=A) (n:=n) (xs:=xs) (by simp)) (by omega)
   obtain⟨x,hx,h1,h2⟩:=hcc j hlt
   rw[←Nat.add_assoc] at h2
   clear hcc
   have hs1:=full_take_succ hx
   have hs2:=full_take xs (j+1)
   have hsz:sz x≤4000000000000000000:=by omega
   have HS1:=Lib.hid hs1
   have hle:=B1.out.size
   go_wp2_with (first
    | go_skip
    | (go_at_call 42;(have hc:=t_size x (wr.alloc (.cells #[.string x.1,.string x.2] 27)) hsz;unfold fdv at hc;(with_reducible refine hc.mono ?_);clear hc);rintro e w2 ⟨rfl,hb2⟩;have K2:=Lib.hid ((K1.out.al (.cells #[.string x.1,.string x.2] 27)).on hb2);have B2:=Lib.hid (below_step (B1.out.alloc hle (.cells #[.string x.1,.string x.2] 27)) hb2);clear hb2 h1 h2))
   go_roundw
   case rel=>exact⟨j+1,by omega,by rw[HS1.out];go_num,by go_num,K2.out,B2.out⟩
   case measure=>simp[intOf];omega
  ·obtain rfl:j=n:=by omega
   go_wp2
   go_ret
   exact⟨(by rw[List.take_of_length_le (by omega)];rfl),B1.out⟩
theorem v_SizeG(A:Option Addr)(n c:Nat)(xs:List Fd)(w:World)(hA:Fs w w.heap.size A n xs)(hF:full xs≤4000000000000000000) :
  Calls Tryz.prog 21 #[.slice A n c] w fun e w'=>e = .returned (.int .i64 (full xs:Int))∧Below w.heap.size w w':=by
 have hn:=hA.1
 have hfl:=full_len xs
 have K0:Hid (EnvF w [fF A n xs] []):=Lib.hid ((EnvF.nil w).addF hA)
 have B0:Hid (Below w.heap.size w w):=Lib.hid (Below.refl _ w)
 clear hA
 go_enter Tryz.func21,Tryz.ntmps21
 go_wp2
 go_loopw [3,4] (fun t u wr=>∃j:Nat,j≤n∧t = .int .i64 (full (xs.take j):Int)∧u = .int .i64 j∧EnvF wr [fF A n xs] []∧Below w.heap.size w wr) (fun _ u _=>n-(intOf u).toNat)
 case atStart=>exact⟨0,Nat.zero_le _,rfl,rfl,K0.out,B0.out⟩
 case round=>
  obtain⟨j,hj,rfl,rfl,hk,hbel⟩:=hrel
  have K1:=Lib.hid hk
  have B1:=Lib.hid hbel
  clear hk hbel K0 B0
  by_cases hlt:j<n
  ·
   obtain⟨b,o,rfl,hb,hcc⟩:=fs_cell (K1.out.fs (A:=A) (n:=n) (xs:=xs) (by simp)) (by omega)
   obtain⟨x,hx,h1,h2⟩:=hcc j hlt
   rw[←Nat.add_assoc] at h2
   clear hcc
   have hs1:=full_take_succ hx
   have hs2:=full_take xs (j+1)
   have hsz:sz x≤4000000000000000000:=by omega
   have HS1:=Lib.hid hs1
   have hle:=B1.out.size
   go_wp2_with (first
    | go_skip
    | (go_at_call 37;(have hc:=r_size x wr hsz;unfold fdv at hc;(with_reducible refine hc.mono ?_);clear hc);rintro e w2 ⟨rfl,hb2⟩;have K2:=Lib.hid (K1.out.on hb2);have B2:=Lib.hid (below_step B1.out hb2);clear hb2 h1 h2))
   go_roundw
   case rel=>exact⟨j+1,by omega,by rw[HS1.out];go_num,by go_num,K2.out,B2.out⟩
   case measure=>simp[intOf];omega
  ·obtain rfl:j=n:=by omega
   go_wp2
   go_ret
   exact⟨(by rw[List.take_of_length_le (by omega)];rfl),B1.out⟩
theorem u_SizeG(A:Option Addr)(n c:Nat)(xs:List Fd)(w:World)(hA:Fs w w.heap.size A n xs)(hF:full xs≤4000000000000000000) :
  Calls Tryz.prog 20 #[.slice A n c] w fun e w'=>e = .returned (.int .i64 (full xs:Int))∧Below w.heap.size w w':=by
 have HT:=Lib.hid (t_fullG 0 A n c xs w hA hF)
 go_enter Tryz.func20,Tryz.ntmps20
 go_wp2_with (go_at_call 52;(with_reducible refine HT.out.mono ?_);rintro e w1 ⟨rfl,hb⟩;have HB:=Lib.hid hb;clear hb)
 go_ret
 exact⟨rfl,HB.out⟩
theorem l_usize{fs:List Fact}{gs:List Bx}{A:Option Addr}{n c s:Nat}{xs:List Fd}(w:World)(hV:EnvF w fs gs)(hA:fF A n xs∈fs)(hF:full xs≤4000000000000000000)(h:full xs=s) :
  Calls Tryz.prog 20 #[.slice A n c] w fun e w'=>e = .returned (.int .i64 (s:Int))∧Below w.heap.size w w':=h ▸ u_SizeG A n c xs w (hV.fs hA) hF
theorem l_dsize{fs:List Fact}{gs:List Bx}{A:Option Addr}{n c s:Nat}{xs:List Fd}(w:World)(hV:EnvF w fs gs)(hA:fF A n xs∈fs)(hF:full xs≤4000000000000000000)(h:full xs=s) :
  Calls Tryz.prog 21 #[.slice A n c] w fun e w'=>e = .returned (.int .i64 (s:Int))∧Below w.heap.size w w':=h ▸ v_SizeG A n c xs w (hV.fs hA) hF
theorem Up.full_many{k m:Nat} : ∀{xs:List Fd},xs.length≤k→(∀x∈xs,sz x≤m)→full xs≤k*m:=by
 induction k with
 | zero=>
  intro xs h _
  obtain rfl:xs=[]:=List.eq_nil_of_length_eq_zero (by omega)
  simp[full]
 | succ k ih=>
  intro xs h hs
  cases xs with
  | nil=>exact Nat.zero_le _
  | cons x xs=>
   have h1:=hs x (by simp)
   have h2:=ih (xs:=xs) (by simp only[List.length_cons] at h;omega) (fun y hy=>hs y (List.mem_cons_of_mem _ hy))
   show sz x+full xs≤_
   rw[Nat.succ_mul]
   omega
end Go.Proofs.YtahiajeggbpogaaGreatDoor
