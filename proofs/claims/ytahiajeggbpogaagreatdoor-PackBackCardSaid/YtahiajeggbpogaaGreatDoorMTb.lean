import Derived.Test.YtahiajeggbpogaaGreatDoorMTa
import Derived.Lib.Strings
import Derived.Test.YtahiajeggbpogaaGreatDoorMGa
import Derived.ProofKit
import Derived.LaidMore
import Derived.LaidLaws
import Derived.OpenShut
import Derived.Stop.Joined
import Derived.ChangeSame
set_option maxRecDepth 100000
set_option maxHeartbeats 4000000
namespace Go.Proofs.YtahiajeggbpogaaGreatDoor
open Go.RowKit Tb
set_option linter.unusedVariables false
set_option linter.unusedSimpArgs false
theorem Tb.byts_take(xs:List Fd)(h : ∀x∈xs,x.1.size≤140737488355328∧x.2.size≤140737488355328)(j:Nat)(hj:j≤xs.length):byts (xs.take j)≤j*281474976710656:=by
 induction j with
 | zero=>simp[byts,full]
 | succ j ih=>
  have hx:xs[j]? = some xs[j]:=List.getElem?_eq_getElem (by omega)
  rw[byts_succ hx]
  have h1:=ih (by omega)
  have h2:=h xs[j] (List.getElem_mem _)
  omega
theorem Tb.great_end{xs:List Fd}{j:Nat}(h:j=xs.length∧j≤141∨j=141∧j≤xs.length):xs.take j=xs.take 141:=by
 rcases h with ⟨rfl,h⟩ | ⟨rfl,_⟩
 ·rw[List.take_length,List.take_of_length_le h]
 ·rfl
theorem r_great(A:Option Addr)(n c:Nat)(xs:List Fd)(w:World)(hA:Fs w w.heap.size A n xs)(hn2:n≤c)(hcm:c≤maxLen)(hS : ∀x∈xs,x.1.size≤140737488355328∧x.2.size≤140737488355328) :
  Calls Tryz.prog 24 #[.slice A n c] w fun e w'=>e = .returned (.bool (greatB xs))∧Below w.heap.size w w':=by
 have hn:=hA.1
 have HA:=Lib.hid hA
 have HS:=Lib.hid hS
 have hcm2:n≤9223372036854775807:=by unfold maxLen at hcm;omega
 clear hA hS hcm
 go_enter Tryz.func24,Tryz.ntmps24
 go_wp2
 go_loopw [3,4] (fun t u wr=>∃j:Nat,j≤n∧j≤141∧t = .int .i64 (byts (xs.take j):Int)∧u = .int .i64 j∧Below w.heap.size w wr) (fun _ u _=>n-(intOf u).toNat)
 case atStart=>exact⟨0,Nat.zero_le _,by omega,rfl,rfl,Below.refl _ _⟩
 case round=>
  obtain⟨j,hj,hj2,rfl,rfl,hbel⟩:=hrel
  have B1:=Lib.hid hbel
  have hby:=byts_take xs HS.out j (by omega)
  clear hbel
  by_cases hend:j=n∨j=141
  ·have HT:=Lib.hid (great_end (xs:=xs) (j:=j) (by omega))
   have hgb:greatB xs=(decide (140<xs.length)||decide (5000<byts (xs.take j))):=by unfold greatB;rw[HT.out]
   have HGB:=Lib.hid hgb
   clear hgb
   rcases Nat.lt_or_ge 140 n with h140 | h140
   ·have d3:decide ((140:Int)<(n:Int))=true:=decide_eq_true (by omega)
    have d4:decide (140<xs.length)=true:=decide_eq_true (by omega)
    rcases Nat.lt_or_ge j n with h1 | h1
    ·obtain rfl:j=141:=by omega
     have d1:decide ((141:Int)<(n:Int))=true:=decide_eq_true (by omega)
     go_wp2
     go_ret
     exact⟨(by rw[HGB.out,d4];rfl),B1.out⟩
    ·obtain rfl:j=n:=by omega
     go_wp2
     go_ret
     exact⟨(by rw[HGB.out,d4];rfl),B1.out⟩
   ·obtain rfl:j=n:=by omega
    have d3:decide ((140:Int)<(j:Int))=false:=decide_eq_false (by omega)
    have d4:decide (140<xs.length)=false:=decide_eq_false (by omega)
    have d5:decide ((5000:Int)<(byts (xs.take j):Int))=decide (5000<byts (xs.take j)):=by
     by_cases h:5000<byts (xs.take j)
     ·rw[decide_eq_true h,decide_eq_true (by omega)]
     ·rw[decide_eq_false h,decide_eq_false (by omega)]
    have D5:=Lib.hid d5
    clear d5
    go_wp2
    go_ret
    exact⟨(by rw[HGB.out,d4,←D5.out];rfl),B1.out⟩
  ·have hlt:j<n:=by omega
   have hle:j≤140:=by omega
   obtain⟨b,o,rfl,hb,hcc⟩:=fs_cell ((HA.out.below B1.out).more B1.out.size) (by omega)
   obtain⟨x,hx,h1,h2⟩:=hcc j hlt
   rw[←Nat.add_assoc] at h2
   clear hcc
   have hs:=byts_succ hx
   have hxs:=HS.out x (List.mem_of_getElem? hx)
   have HSS:=Lib.hid hs
   have d1:decide ((j:Int)≤140)=true:=decide_eq_true (by omega)
   clear hend hs
   go_wp2
   go_region
   go_wp2
   go_roundw
   case rel=>exact⟨j+1,by omega,by omega,by rw[HSS.out];go_num,by go_num,B1.out.drew⟩
   case measure=>simp[intOf];omega
end Go.Proofs.YtahiajeggbpogaaGreatDoor
namespace Go.Proofs.YtahiajeggbpogaaGreatDoor
open Go.RowKit Tb
set_option linter.unusedVariables false
set_option linter.unusedSimpArgs false
theorem Tb.ba_eq{a b:ByteArray}(h:a.toList=b.toList):a=b:=by
 rw[Lib.toList_data,Lib.toList_data] at h
 exact ByteArray.ext (Array.toList_inj.1 h)
theorem Tb.fd_ways(x y:Fd):x=y∨(x≠y∧¬(x.1.toList=y.1.toList))∨(x≠y∧x.1=y.1∧¬(x.2.toList=y.2.toList)):=by
 by_cases h:x=y
 ·exact .inl h
 ·by_cases h1:x.1=y.1
  ·exact .inr (.inr ⟨h,h1,fun h2=>h (Prod.ext h1 (ba_eq h2))⟩)
  ·exact .inr (.inl ⟨h,fun h2=>h1 (ba_eq h2)⟩)
theorem Tb.eq_take{l l':List Fd}{n:Nat}(h:l.length=n)(h':l'.length=n)(hs:l.take n=l'.take n):decide (l=l')=true:=by
 rw[List.take_of_length_le (by omega),List.take_of_length_le (by omega)] at hs
 exact decide_eq_true hs
theorem Tb.ne_at{l l':List Fd}{j:Nat}{x y:Fd}(h:l[j]? = some x)(h':l'[j]? = some y)(hne:x≠y):decide (l=l')=false:=by
 refine decide_eq_false fun e=>?_
 subst e
 rw[h] at h'
 cases h'
 exact hne rfl
theorem Tb.ne_len{l l':List Fd}(h:l.length≠l'.length):decide (l=l')=false:=decide_eq_false fun e=>h (by rw[e])
theorem Tb.same_take{l l':List Fd}{j:Nat}{x:Fd}(h:l[j]? = some x)(h':l'[j]? = some x)(hs:l.take j=l'.take j):l.take (j+1)=l'.take (j+1):=by
 rw[←take_snoc h,←take_snoc h',hs]
theorem Tb.retb{b c:Bool}(h:b=c):Ending.returned (.bool b) = .returned (.bool c):=by rw[h]
def Tb.sameB(M:Int)(xs:List Fd)(M':Int)(ys:List Fd):Bool:=decide (M=M')&&decide (xs=ys)
theorem r_fields(A A':Option Addr)(n n' c c':Nat)(xs ys:List Fd)(w:World)(hA:Fs w w.heap.size A n xs)(hA':Fs w w.heap.size A' n' ys)(hn:n≤1000000) :
  Calls Tryz.prog 38 #[.slice A n c,.slice A' n' c'] w fun e w'=>e = .returned (.bool (decide (xs=ys)))∧Below w.heap.size w w':=by
 have hl:=hA.1
 have hl':=hA'.1
 by_cases hne:n=n'
 ·subst hne
  have HA:=Lib.hid hA
  have HA':=Lib.hid hA'
  clear hA hA'
  go_enter Tryz.func38,Tryz.ntmps38
  go_wp2
  go_loopw [5] (fun t wr=>∃j:Nat,j≤n∧t = .int .i64 j∧xs.take j=ys.take j∧Below w.heap.size w wr) (fun t _=>n-(intOf t).toNat)
  case atStart=>exact⟨0,Nat.zero_le _,rfl,rfl,Below.refl _ _⟩
  case round=>
   obtain⟨j,hj,rfl,hsame,hbel⟩:=hrel
   have HS:=Lib.hid hsame
   have B1:=Lib.hid hbel
   clear hsame hbel
   by_cases hlt:j<n
   ·skip
    obtain⟨b,o,rfl,hb,hcc⟩:=fs_cell ((HA.out.below B1.out).more B1.out.size) (by omega)
    obtain⟨x,hx,h1,h2⟩:=hcc j hlt
    obtain⟨b',o',rfl,hb',hcc'⟩:=fs_cell ((HA'.out.below B1.out).more B1.out.size) (by omega)
    obtain⟨y,hy,h1',h2'⟩:=hcc' j hlt
    rw[←Nat.add_assoc] at h2 h2'
    clear hcc hcc'
    go_wp2
    rcases fd_ways x y with rfl | ⟨hxy,n1⟩ | ⟨hxy,n1,n2⟩
    ·have HT:=Lib.hid (same_take hx hy HS.out)
     go_region
     go_wp2
     go_roundw
     case rel=>exact⟨j+1,by omega,by go_num,HT.out,B1.out.drew⟩
     case measure=>simp[intOf];omega
    ·have HE:=Lib.hid (ne_at hx hy hxy)
     go_region
     go_wp2
     go_ret
     exact⟨retb HE.out.symm,B1.out.drew⟩
    ·have HE:=Lib.hid (ne_at hx hy hxy)
     go_region
     go_wp2
     go_ret
     exact⟨retb HE.out.symm,B1.out.drew⟩
   ·obtain rfl:j=n:=by omega
    go_wp2
    go_ret
    exact⟨retb (eq_take hl hl' HS.out).symm,B1.out⟩
 ·have hb:decide (xs=ys)=false:=ne_len (by omega)
  rw[hb]
  have d:((n:Int) != (n':Int))=true:=by simp;omega
  clear hA hA' hb
  go_enter Tryz.func38,Tryz.ntmps38
  go_wp2
  go_ret
  exact⟨rfl,Below.refl _ _⟩
theorem r_same(M M':Int)(A A':Option Addr)(n n' c c':Nat)(xs ys:List Fd)(w:World)(hA:Fs w w.heap.size A n xs)(hA':Fs w w.heap.size A' n' ys)(hn:n≤1000000) :
  Calls Tryz.prog 29 #[.agg #[.int .i64 M,.slice A n c],.agg #[.int .i64 M',.slice A' n' c']] w fun e w'=>e = .returned (.bool (sameB M xs M' ys))∧Below w.heap.size w w':=by
 have hl:=hA.1
 have hl':=hA'.1
 have K0:Hid (EnvF ((w.alloc (.cells #[.int .i64 M,.slice A n c] 24)).alloc (.cells #[.int .i64 M',.slice A' n' c'] 24)) [fF A' n' ys,fF A n xs] [(w.heap.size+1,#[.int .i64 M',.slice A' n' c'],24),(w.heap.size,#[.int .i64 M,.slice A n c],24)]):=Lib.hid (((((EnvF.nil w).addF hA).addF hA').boxg 24 #[.int .i64 M,.slice A n c] (w.heap.size) (by simp)).boxg 24 #[.int .i64 M',.slice A' n' c'] (w.heap.size+1) (by simp))
 have B0:Hid (Below w.heap.size w ((w.alloc (.cells #[.int .i64 M,.slice A n c] 24)).alloc (.cells #[.int .i64 M',.slice A' n' c'] 24))):=Lib.hid (((Below.refl _ w).alloc (Nat.le_refl _) (.cells #[.int .i64 M,.slice A n c] 24)).alloc (by simp) (.cells #[.int .i64 M',.slice A' n' c'] 24))
 clear hA hA'
 unfold sameB
 by_cases hM:M=M'
 ·subst hM
  rw[decide_eq_true (rfl:M=M),Bool.true_and]
  have r0:=(cells2_row (K0.out.row 0 rfl)).2
  have r1:=(cells2_row (K0.out.row 1 rfl)).2
  go_enter Tryz.func29,Tryz.ntmps29
  go_wp2_with (first
   | go_skip
   | (go_at_call 38;(have hc:=r_fields A A' n n' c c' xs ys ((w.alloc (.cells #[.int .i64 M,.slice A n c] 24)).alloc (.cells #[.int .i64 M,.slice A' n' c'] 24)) (K0.out.fs (A:=A) (n:=n) (xs:=xs) (by simp)) (K0.out.fs (A:=A') (n:=n') (xs:=ys) (by simp)) hn;(with_reducible refine hc.mono ?_);clear hc);rintro e w1 ⟨rfl,hb⟩;have B1:=Lib.hid (below_step B0.out hb);clear hb))
  go_ret
  exact⟨rfl,B1.out⟩
 ·rw[decide_eq_false hM,Bool.false_and]
  have d:(M==M')=false:=by simpa using hM
  go_enter Tryz.func29,Tryz.ntmps29
  go_wp2
  go_ret
  exact⟨rfl,B0.out⟩
end Go.Proofs.YtahiajeggbpogaaGreatDoor
namespace Go.Proofs.YtahiajeggbpogaaGreatDoor
open Go.RowKit Tb
set_option linter.unusedVariables false
set_option linter.unusedSimpArgs false
theorem t_resize(M:Int)(A:Option Addr)(n c:Nat)(xs:List Fd)(m:Int)(w:World)(hA:Fs w w.heap.size A n xs)(hN:A=none→c=0)(hF:full xs≤100000) :
  Calls Tryz.prog 59 #[.agg #[.int .i64 M,.slice A n c],.int .i64 m] w fun e w'=>∃v,e = .returned (.tuple #[.agg #[.int .i64 (resM M xs m),v],.int .i64 (resE M xs m)])∧OwnF w' w.heap.size 27 v (resL M xs m)∧Below w.heap.size w w':=by
 have hr:=fun(w0:World) (h:Fs w0 w0.heap.size A n xs)=>t_right M A n c xs w0 h (by omega)
 unfold resM resE resL resB
 by_cases h0:rightB M xs=true
 ·rw[h0] at hr ⊢
  by_cases hm:okB m=true
  ·rw[hm]
   have hm0:0≤m:=by unfold okB at hm;rw[Bool.and_eq_true] at hm;exact of_decide_eq_true hm.1
   have hm1:m≤4096:=by unfold okB at hm;rw[Bool.and_eq_true] at hm;exact of_decide_eq_true hm.2
   have d0:decide (m<0)=false:=decide_eq_false (by omega)
   have d1:decide (4096<m)=false:=decide_eq_false (by omega)
   have K0:Hid (EnvF ((w.alloc (.cells #[.int .i64 M,.slice A n c] 24)).alloc (.cells #[.int .i64 0,.slice none 0 0] 24)) [fF A n xs] [(w.heap.size+1,#[.int .i64 0,.slice none 0 0],24),(w.heap.size,#[.int .i64 M,.slice A n c],24)]):=Lib.hid ((((EnvF.nil w).addF hA).boxg 24 #[.int .i64 M,.slice A n c] (w.heap.size) (by simp)).boxg 24 #[.int .i64 0,.slice none 0 0] (w.heap.size+1) (by simp))
   have B0:Hid (Below w.heap.size w ((w.alloc (.cells #[.int .i64 M,.slice A n c] 24)).alloc (.cells #[.int .i64 0,.slice none 0 0] 24))):=Lib.hid (((Below.refl _ w).alloc (by first | exact Nat.le_refl _ | (simp only[World.size_alloc];omega)) (.cells #[.int .i64 M,.slice A n c] 24)).alloc (by first | exact Nat.le_refl _ | (simp only[World.size_alloc];omega)) (.cells #[.int .i64 0,.slice none 0 0] 24))
   go_enter Tryz.func59,Tryz.ntmps59
   go_wp2_with (first
    | go_skip
    | (refine at_load 24 (.tmp 6) (by rfl) ?_;refine wpList_load_row (by rfl) 24 (.tmp 6) (by rfl) (w.heap.size) (by rfl) 24 #[.int .i64 M,.slice A n c] (0,0) _ (K0.out.row 1 rfl) Tryz.underlying24 (by rfl) infoc_T ?_)
    | (go_at_call 81;(have hc:=(hr ((w.alloc (.cells #[.int .i64 M,.slice A n c] 24)).alloc (.cells #[.int .i64 0,.slice none 0 0] 24)) (K0.out.fs (A:=A) (n:=n) (xs:=xs) (by simp)));(with_reducible refine hc.mono ?_);clear hc);rintro e w1 ⟨rfl,hb⟩;have K1:Hid (EnvF w1 [fF A n xs] [(w.heap.size+1,#[.int .i64 0,.slice none 0 0],24),(w.heap.size,#[.int .i64 M,.slice A n c],24)]):=Lib.hid (K0.out.on hb);have B1:Hid (Below w.heap.size w w1):=Lib.hid (below_step B0.out hb);clear hb K0 B0)
    | (go_at_call 82;(have hc:=(t_bounded m w1);(with_reducible refine hc.mono ?_);clear hc);rintro e w2 ⟨rfl,hb⟩;rw[hm];have K2:Hid (EnvF w2 [fF A n xs] [(w.heap.size+1,#[.int .i64 0,.slice none 0 0],24),(w.heap.size,#[.int .i64 M,.slice A n c],24)]):=Lib.hid (K1.out.on hb);have B2:Hid (Below w.heap.size w w2):=Lib.hid (below_step B1.out hb);clear hb K1 B1)
    | (refine at_load 22 (.tmp 16) (by rfl) ?_;refine wpList_get (by rfl) 22 (.tmp 16) (by rfl) (w.heap.size) 1 (by rfl) 24 #[.int .i64 M,.slice A n c] (.slice A n c) _ (K2.out.row 1 rfl) (by rfl) Tryz.underlying22 (by rfl) ?_)
    | (go_at_call 83;(have hc:=(t_evicted m A n c xs w2 (K2.out.fs (A:=A) (n:=n) (xs:=xs) (by simp)) (by omega) hm0);(with_reducible refine hc.mono ?_);clear hc);rintro e w3 ⟨v3,rfl,ho,hb⟩;obtain⟨A3,c3,rfl,_⟩:=ho.form2 (n:=fit m xs) (keep_len m xs);have K3:Hid (EnvF w3 [oF w.heap.size 27 (.slice A3 (fit m xs) c3) (keep m xs),fF A3 (fit m xs) (keep m xs),fF A n xs] [(w.heap.size+1,#[.int .i64 0,.slice none 0 0],24),(w.heap.size,#[.int .i64 M,.slice A n c],24)]):=Lib.hid (K2.out.handO hb ho B2.out.size);have B3:Hid (Below w.heap.size w w3):=Lib.hid (below_step B2.out hb);clear hb ho K2 B2)
    | (refine at_store 24 (.tmp 4) (.tmp 18) (by rfl) ?_;refine wpList_put (by rfl) 24 (.tmp 4) (.tmp 18) (by rfl) (w.heap.size+1) 0 (.agg #[.int .i64 m,.slice A3 (fit m xs) c3]) (by rfl) (by rfl) 24 #[.int .i64 0,.slice none 0 0] #[.int .i64 m,.slice A3 (fit m xs) c3] (K3.out.row 0 rfl) (by simp[Value.cells]) (by kernel_rfl) infoc_T (by kernel_rfl) ?_;intro w4 hrow hoth hz hbl;have K4:Hid (EnvF w4 [oF w.heap.size 27 (.slice A3 (fit m xs) c3) (keep m xs),fF A3 (fit m xs) (keep m xs),fF A n xs] [(w.heap.size+1,#[.int .i64 m,.slice A3 (fit m xs) c3],24),(w.heap.size,#[.int .i64 M,.slice A n c],24)]):=Lib.hid (K3.out.turn 0 rfl hrow hoth hz);have B4:Hid (Below w.heap.size w w4):=Lib.hid (hbl _ _ (by omega) B3.out);clear hrow hoth hz hbl K3 B3))
   exact bodyPost_ret (res_cell_tmp rfl _ _ _ _ _ _ rfl (K4.out.row 0 rfl) Tryz.underlying24 rfl infoc_T) rfl ⟨_,rfl,(K4.out.own (B:=w.heap.size) (t:=27) (v:=.slice A3 (fit m xs) c3) (xs:=keep m xs) (by simp)),B4.out⟩
  ·rw[Bool.not_eq_true] at hm
   rw[hm]
   rcases (show m<0∨(¬m<0∧4096<m) by
    unfold okB at hm
    rcases Int.lt_or_le m 0 with h | h
    ·exact .inl h
    ·rcases Int.lt_or_le 4096 m with h' | h'
     ·exact .inr ⟨by omega,h'⟩
     ·rw[decide_eq_true h,decide_eq_true h'] at hm;cases hm) with hx | ⟨hx,hy⟩
   ·have d0:decide (m<0)=true:=decide_eq_true hx
    have K0:Hid (EnvF ((w.alloc (.cells #[.int .i64 M,.slice A n c] 24)).alloc (.cells #[.int .i64 0,.slice none 0 0] 24)) [fF A n xs] [(w.heap.size+1,#[.int .i64 0,.slice none 0 0],24),(w.heap.size,#[.int .i64 M,.slice A n c],24)]):=Lib.hid ((((EnvF.nil w).addF hA).boxg 24 #[.int .i64 M,.slice A n c] (w.heap.size) (by simp)).boxg 24 #[.int .i64 0,.slice none 0 0] (w.heap.size+1) (by simp))
    have B0:Hid (Below w.heap.size w ((w.alloc (.cells #[.int .i64 M,.slice A n c] 24)).alloc (.cells #[.int .i64 0,.slice none 0 0] 24))):=Lib.hid (((Below.refl _ w).alloc (by first | exact Nat.le_refl _ | (simp only[World.size_alloc];omega)) (.cells #[.int .i64 M,.slice A n c] 24)).alloc (by first | exact Nat.le_refl _ | (simp only[World.size_alloc];omega)) (.cells #[.int .i64 0,.slice none 0 0] 24))
    go_enter Tryz.func59,Tryz.ntmps59
    go_wp2_with (first
     | go_skip
     | (refine at_load 24 (.tmp 6) (by rfl) ?_;refine wpList_load_row (by rfl) 24 (.tmp 6) (by rfl) (w.heap.size) (by rfl) 24 #[.int .i64 M,.slice A n c] (0,0) _ (K0.out.row 1 rfl) Tryz.underlying24 (by rfl) infoc_T ?_)
     | (go_at_call 81;(have hc:=(hr ((w.alloc (.cells #[.int .i64 M,.slice A n c] 24)).alloc (.cells #[.int .i64 0,.slice none 0 0] 24)) (K0.out.fs (A:=A) (n:=n) (xs:=xs) (by simp)));(with_reducible refine hc.mono ?_);clear hc);rintro e w1 ⟨rfl,hb⟩;have K1:Hid (EnvF w1 [fF A n xs] [(w.heap.size+1,#[.int .i64 0,.slice none 0 0],24),(w.heap.size,#[.int .i64 M,.slice A n c],24)]):=Lib.hid (K0.out.on hb);have B1:Hid (Below w.heap.size w w1):=Lib.hid (below_step B0.out hb);clear hb K0 B0)
     | (go_at_call 82;(have hc:=(t_bounded m w1);(with_reducible refine hc.mono ?_);clear hc);rintro e w2 ⟨rfl,hb⟩;rw[hm];have K2:Hid (EnvF w2 [fF A n xs] [(w.heap.size+1,#[.int .i64 0,.slice none 0 0],24),(w.heap.size,#[.int .i64 M,.slice A n c],24)]):=Lib.hid (K1.out.on hb);have B2:Hid (Below w.heap.size w w2):=Lib.hid (below_step B1.out hb);clear hb K1 B1)
     | (refine at_store 24 (.tmp 4) (.tmp 14) (by rfl) ?_;refine wpList_put (by rfl) 24 (.tmp 4) (.tmp 14) (by rfl) (w.heap.size+1) 0 (.agg #[.int .i64 0,.slice none 0 0]) (by rfl) (by rfl) 24 #[.int .i64 0,.slice none 0 0] #[.int .i64 0,.slice none 0 0] (K2.out.row 0 rfl) (by simp[Value.cells]) (by kernel_rfl) infoc_T (by kernel_rfl) ?_;intro w3 hrow hoth hz hbl;have K3:Hid (EnvF w3 [fF A n xs] [(w.heap.size+1,#[.int .i64 0,.slice none 0 0],24),(w.heap.size,#[.int .i64 M,.slice A n c],24)]):=Lib.hid (K2.out.turn 0 rfl hrow hoth hz);have B3:Hid (Below w.heap.size w w3):=Lib.hid (hbl _ _ (by omega) B2.out);clear hrow hoth hz hbl K2 B2))
    exact bodyPost_ret (res_cell_tmp rfl _ _ _ _ _ _ rfl (K3.out.row 0 rfl) Tryz.underlying24 rfl infoc_T) rfl ⟨_,rfl,OwnF.nil_ _ _ _,B3.out⟩
   ·have d0:decide (m<0)=false:=decide_eq_false hx
    have d1:decide (4096<m)=true:=decide_eq_true hy
    have K0:Hid (EnvF ((w.alloc (.cells #[.int .i64 M,.slice A n c] 24)).alloc (.cells #[.int .i64 0,.slice none 0 0] 24)) [fF A n xs] [(w.heap.size+1,#[.int .i64 0,.slice none 0 0],24),(w.heap.size,#[.int .i64 M,.slice A n c],24)]):=Lib.hid ((((EnvF.nil w).addF hA).boxg 24 #[.int .i64 M,.slice A n c] (w.heap.size) (by simp)).boxg 24 #[.int .i64 0,.slice none 0 0] (w.heap.size+1) (by simp))
    have B0:Hid (Below w.heap.size w ((w.alloc (.cells #[.int .i64 M,.slice A n c] 24)).alloc (.cells #[.int .i64 0,.slice none 0 0] 24))):=Lib.hid (((Below.refl _ w).alloc (by first | exact Nat.le_refl _ | (simp only[World.size_alloc];omega)) (.cells #[.int .i64 M,.slice A n c] 24)).alloc (by first | exact Nat.le_refl _ | (simp only[World.size_alloc];omega)) (.cells #[.int .i64 0,.slice none 0 0] 24))
    go_enter Tryz.func59,Tryz.ntmps59
    go_wp2_with (first
     | go_skip
     | (refine at_load 24 (.tmp 6) (by rfl) ?_;refine wpList_load_row (by rfl) 24 (.tmp 6) (by rfl) (w.heap.size) (by rfl) 24 #[.int .i64 M,.slice A n c] (0,0) _ (K0.out.row 1 rfl) Tryz.underlying24 (by rfl) infoc_T ?_)
     | (go_at_call 81;(have hc:=(hr ((w.alloc (.cells #[.int .i64 M,.slice A n c] 24)).alloc (.cells #[.int .i64 0,.slice none 0 0] 24)) (K0.out.fs (A:=A) (n:=n) (xs:=xs) (by simp)));(with_reducible refine hc.mono ?_);clear hc);rintro e w1 ⟨rfl,hb⟩;have K1:Hid (EnvF w1 [fF A n xs] [(w.heap.size+1,#[.int .i64 0,.slice none 0 0],24),(w.heap.size,#[.int .i64 M,.slice A n c],24)]):=Lib.hid (K0.out.on hb);have B1:Hid (Below w.heap.size w w1):=Lib.hid (below_step B0.out hb);clear hb K0 B0)
     | (go_at_call 82;(have hc:=(t_bounded m w1);(with_reducible refine hc.mono ?_);clear hc);rintro e w2 ⟨rfl,hb⟩;rw[hm];have K2:Hid (EnvF w2 [fF A n xs] [(w.heap.size+1,#[.int .i64 0,.slice none 0 0],24),(w.heap.size,#[.int .i64 M,.slice A n c],24)]):=Lib.hid (K1.out.on hb);have B2:Hid (Below w.heap.size w w2):=Lib.hid (below_step B1.out hb);clear hb K1 B1)
     | (refine at_store 24 (.tmp 4) (.tmp 14) (by rfl) ?_;refine wpList_put (by rfl) 24 (.tmp 4) (.tmp 14) (by rfl) (w.heap.size+1) 0 (.agg #[.int .i64 0,.slice none 0 0]) (by rfl) (by rfl) 24 #[.int .i64 0,.slice none 0 0] #[.int .i64 0,.slice none 0 0] (K2.out.row 0 rfl) (by simp[Value.cells]) (by kernel_rfl) infoc_T (by kernel_rfl) ?_;intro w3 hrow hoth hz hbl;have K3:Hid (EnvF w3 [fF A n xs] [(w.heap.size+1,#[.int .i64 0,.slice none 0 0],24),(w.heap.size,#[.int .i64 M,.slice A n c],24)]):=Lib.hid (K2.out.turn 0 rfl hrow hoth hz);have B3:Hid (Below w.heap.size w w3):=Lib.hid (hbl _ _ (by omega) B2.out);clear hrow hoth hz hbl K2 B2))
    exact bodyPost_ret (res_cell_tmp rfl _ _ _ _ _ _ rfl (K3.out.row 0 rfl) Tryz.underlying24 rfl infoc_T) rfl ⟨_,rfl,OwnF.nil_ _ _ _,B3.out⟩
 ·rw[Bool.not_eq_true] at h0
  rw[h0] at hr ⊢
  rw[Bool.false_and]
  have K0:Hid (EnvF ((w.alloc (.cells #[.int .i64 M,.slice A n c] 24)).alloc (.cells #[.int .i64 0,.slice none 0 0] 24)) [fF A n xs] [(w.heap.size+1,#[.int .i64 0,.slice none 0 0],24),(w.heap.size,#[.int .i64 M,.slice A n c],24)]):=Lib.hid ((((EnvF.nil w).addF hA).boxg 24 #[.int .i64 M,.slice A n c] (w.heap.size) (by simp)).boxg 24 #[.int .i64 0,.slice none 0 0] (w.heap.size+1) (by simp))
  have B0:Hid (Below w.heap.size w ((w.alloc (.cells #[.int .i64 M,.slice A n c] 24)).alloc (.cells #[.int .i64 0,.slice none 0 0] 24))):=Lib.hid (((Below.refl _ w).alloc (by first | exact Nat.le_refl _ | (simp only[World.size_alloc];omega)) (.cells #[.int .i64 M,.slice A n c] 24)).alloc (by first | exact Nat.le_refl _ | (simp only[World.size_alloc];omega)) (.cells #[.int .i64 0,.slice none 0 0] 24))
  go_enter Tryz.func59,Tryz.ntmps59
  go_wp2_with (first
   | go_skip
   | (refine at_load 24 (.tmp 6) (by rfl) ?_;refine wpList_load_row (by rfl) 24 (.tmp 6) (by rfl) (w.heap.size) (by rfl) 24 #[.int .i64 M,.slice A n c] (0,0) _ (K0.out.row 1 rfl) Tryz.underlying24 (by rfl) infoc_T ?_)
   | (go_at_call 81;(have hc:=(hr ((w.alloc (.cells #[.int .i64 M,.slice A n c] 24)).alloc (.cells #[.int .i64 0,.slice none 0 0] 24)) (K0.out.fs (A:=A) (n:=n) (xs:=xs) (by simp)));(with_reducible refine hc.mono ?_);clear hc);rintro e w1 ⟨rfl,hb⟩;have K1:Hid (EnvF w1 [fF A n xs] [(w.heap.size+1,#[.int .i64 0,.slice none 0 0],24),(w.heap.size,#[.int .i64 M,.slice A n c],24)]):=Lib.hid (K0.out.on hb);have B1:Hid (Below w.heap.size w w1):=Lib.hid (below_step B0.out hb);clear hb K0 B0)
   | (refine at_store 24 (.tmp 4) (.tmp 14) (by rfl) ?_;refine wpList_put (by rfl) 24 (.tmp 4) (.tmp 14) (by rfl) (w.heap.size+1) 0 (.agg #[.int .i64 0,.slice none 0 0]) (by rfl) (by rfl) 24 #[.int .i64 0,.slice none 0 0] #[.int .i64 0,.slice none 0 0] (K1.out.row 0 rfl) (by simp[Value.cells]) (by kernel_rfl) infoc_T (by kernel_rfl) ?_;intro w2 hrow hoth hz hbl;have K2:Hid (EnvF w2 [fF A n xs] [(w.heap.size+1,#[.int .i64 0,.slice none 0 0],24),(w.heap.size,#[.int .i64 M,.slice A n c],24)]):=Lib.hid (K1.out.turn 0 rfl hrow hoth hz);have B2:Hid (Below w.heap.size w w2):=Lib.hid (hbl _ _ (by omega) B1.out);clear hrow hoth hz hbl K1 B1))
  exact bodyPost_ret (res_cell_tmp rfl _ _ _ _ _ _ rfl (K2.out.row 0 rfl) Tryz.underlying24 rfl infoc_T) rfl ⟨_,rfl,OwnF.nil_ _ _ _,B2.out⟩
theorem r_resize(M:Int)(A:Option Addr)(n c:Nat)(xs:List Fd)(m:Int)(w:World)(hA:Fs w w.heap.size A n xs)(hN:A=none→c=0)(hF:full xs≤100000) :
  Calls Tryz.prog 43 #[.agg #[.int .i64 M,.slice A n c],.int .i64 m] w fun e w'=>∃v,e = .returned (.tuple #[.agg #[.int .i64 (resM M xs m),v],.int .i64 (resE M xs m)])∧OwnF w' w.heap.size 27 v (resL M xs m)∧Below w.heap.size w w':=by
 have hr:=fun(w0:World) (h:Fs w0 w0.heap.size A n xs)=>r_right M A n c xs w0 h (by omega)
 unfold resM resE resL resB
 by_cases h0:rightB M xs=true
 ·rw[h0] at hr ⊢
  by_cases hm:okB m=true
  ·rw[hm]
   have hm0:0≤m:=by unfold okB at hm;rw[Bool.and_eq_true] at hm;exact of_decide_eq_true hm.1
   have hm1:m≤4096:=by unfold okB at hm;rw[Bool.and_eq_true] at hm;exact of_decide_eq_true hm.2
   have d0:decide (m<0)=false:=decide_eq_false (by omega)
   have d1:decide (4096<m)=false:=decide_eq_false (by omega)
   have K0:Hid (EnvF ((w.alloc (.cells #[.int .i64 M,.slice A n c] 24)).alloc (.cells #[.int .i64 0,.slice none 0 0] 24)) [fF A n xs] [(w.heap.size+1,#[.int .i64 0,.slice none 0 0],24),(w.heap.size,#[.int .i64 M,.slice A n c],24)]):=Lib.hid ((((EnvF.nil w).addF hA).boxg 24 #[.int .i64 M,.slice A n c] (w.heap.size) (by simp)).boxg 24 #[.int .i64 0,.slice none 0 0] (w.heap.size+1) (by simp))
   have B0:Hid (Below w.heap.size w ((w.alloc (.cells #[.int .i64 M,.slice A n c] 24)).alloc (.cells #[.int .i64 0,.slice none 0 0] 24))):=Lib.hid (((Below.refl _ w).alloc (by first | exact Nat.le_refl _ | (simp only[World.size_alloc];omega)) (.cells #[.int .i64 M,.slice A n c] 24)).alloc (by first | exact Nat.le_refl _ | (simp only[World.size_alloc];omega)) (.cells #[.int .i64 0,.slice none 0 0] 24))
   go_enter Tryz.func43,Tryz.ntmps43
   go_wp2_with (first
    | go_skip
    | (refine at_load 24 (.tmp 6) (by rfl) ?_;refine wpList_load_row (by rfl) 24 (.tmp 6) (by rfl) (w.heap.size) (by rfl) 24 #[.int .i64 M,.slice A n c] (0,0) _ (K0.out.row 1 rfl) Tryz.underlying24 (by rfl) infoc_T ?_)
    | (go_at_call 36;(have hc:=(hr ((w.alloc (.cells #[.int .i64 M,.slice A n c] 24)).alloc (.cells #[.int .i64 0,.slice none 0 0] 24)) (K0.out.fs (A:=A) (n:=n) (xs:=xs) (by simp)));(with_reducible refine hc.mono ?_);clear hc);rintro e w1 ⟨rfl,hb⟩;have K1:Hid (EnvF w1 [fF A n xs] [(w.heap.size+1,#[.int .i64 0,.slice none 0 0],24),(w.heap.size,#[.int .i64 M,.slice A n c],24)]):=Lib.hid (K0.out.on hb);have B1:Hid (Below w.heap.size w w1):=Lib.hid (below_step B0.out hb);clear hb K0 B0)
    | (refine at_store 3 (.tmp 19) (.tmp 18) (by rfl) ?_;refine wpList_put (by rfl) 3 (.tmp 19) (.tmp 18) (by rfl) (w.heap.size) 0 (.int .i64 m) (by rfl) (by rfl) 24 #[.int .i64 M,.slice A n c] #[.int .i64 m,.slice A n c] (K1.out.row 1 rfl) (by simp[Value.cells]) (by kernel_rfl) infoc_i (by kernel_rfl) ?_;intro w2 hrow hoth hz hbl;have K2:Hid (EnvF w2 [fF A n xs] [(w.heap.size+1,#[.int .i64 0,.slice none 0 0],24),(w.heap.size,#[.int .i64 m,.slice A n c],24)]):=Lib.hid (K1.out.turn 1 rfl hrow hoth hz);have B2:Hid (Below w.heap.size w w2):=Lib.hid (hbl _ _ (Nat.le_refl _) B1.out);clear hrow hoth hz hbl K1 B1)
    | (refine at_load 24 (.tmp 2) (by rfl) ?_;refine wpList_load_row (by rfl) 24 (.tmp 2) (by rfl) (w.heap.size) (by rfl) 24 #[.int .i64 m,.slice A n c] (0,0) _ (K2.out.row 1 rfl) Tryz.underlying24 (by rfl) infoc_T ?_)
    | (go_at_call 64;(have hc:=(r_evicted m A n c xs w2 (K2.out.fs (A:=A) (n:=n) (xs:=xs) (by simp)) hN (by omega) hm0);(with_reducible refine hc.mono ?_);clear hc);rintro e w3 ⟨v3,rfl,ho,hb⟩;obtain⟨A3,c3,rfl,_⟩:=ho.form2 (n:=fit m xs) (keep_len m xs);have K3:Hid (EnvF w3 [oF w.heap.size 27 (.slice A3 (fit m xs) c3) (keep m xs),fF A3 (fit m xs) (keep m xs),fF A n xs] [(w.heap.size+1,#[.int .i64 0,.slice none 0 0],24),(w.heap.size,#[.int .i64 m,.slice A n c],24)]):=Lib.hid (K2.out.handO hb ho B2.out.size);have B3:Hid (Below w.heap.size w w3):=Lib.hid (below_step B2.out hb);clear hb ho K2 B2)
    | (refine at_store 24 (.tmp 4) (.tmp 21) (by rfl) ?_;refine wpList_put (by rfl) 24 (.tmp 4) (.tmp 21) (by rfl) (w.heap.size+1) 0 (.agg #[.int .i64 m,.slice A3 (fit m xs) c3]) (by rfl) (by rfl) 24 #[.int .i64 0,.slice none 0 0] #[.int .i64 m,.slice A3 (fit m xs) c3] (K3.out.row 0 rfl) (by simp[Value.cells]) (by kernel_rfl) infoc_T (by kernel_rfl) ?_;intro w4 hrow hoth hz hbl;have K4:Hid (EnvF w4 [oF w.heap.size 27 (.slice A3 (fit m xs) c3) (keep m xs),fF A3 (fit m xs) (keep m xs),fF A n xs] [(w.heap.size+1,#[.int .i64 m,.slice A3 (fit m xs) c3],24),(w.heap.size,#[.int .i64 m,.slice A n c],24)]):=Lib.hid (K3.out.turn 0 rfl hrow hoth hz);have B4:Hid (Below w.heap.size w w4):=Lib.hid (hbl _ _ (by omega) B3.out);clear hrow hoth hz hbl K3 B3))
   exact bodyPost_ret (res_cell_tmp rfl _ _ _ _ _ _ rfl (K4.out.row 0 rfl) Tryz.underlying24 rfl infoc_T) rfl ⟨_,rfl,(K4.out.own (B:=w.heap.size) (t:=27) (v:=.slice A3 (fit m xs) c3) (xs:=keep m xs) (by simp)),B4.out⟩
  ·rw[Bool.not_eq_true] at hm
   rw[hm]
   rcases (show m<0∨(¬m<0∧4096<m) by
    unfold okB at hm
    rcases Int.lt_or_le m 0 with h | h
    ·exact .inl h
    ·rcases Int.lt_or_le 4096 m with h' | h'
     ·exact .inr ⟨by omega,h'⟩
     ·rw[decide_eq_true h,decide_eq_true h'] at hm;cases hm) with hx | ⟨hx,hy⟩
   ·have d0:decide (m<0)=true:=decide_eq_true hx
    have K0:Hid (EnvF ((w.alloc (.cells #[.int .i64 M,.slice A n c] 24)).alloc (.cells #[.int .i64 0,.slice none 0 0] 24)) [fF A n xs] [(w.heap.size+1,#[.int .i64 0,.slice none 0 0],24),(w.heap.size,#[.int .i64 M,.slice A n c],24)]):=Lib.hid ((((EnvF.nil w).addF hA).boxg 24 #[.int .i64 M,.slice A n c] (w.heap.size) (by simp)).boxg 24 #[.int .i64 0,.slice none 0 0] (w.heap.size+1) (by simp))
    have B0:Hid (Below w.heap.size w ((w.alloc (.cells #[.int .i64 M,.slice A n c] 24)).alloc (.cells #[.int .i64 0,.slice none 0 0] 24))):=Lib.hid (((Below.refl _ w).alloc (by first | exact Nat.le_refl _ | (simp only[World.size_alloc];omega)) (.cells #[.int .i64 M,.slice A n c] 24)).alloc (by first | exact Nat.le_refl _ | (simp only[World.size_alloc];omega)) (.cells #[.int .i64 0,.slice none 0 0] 24))
    go_enter Tryz.func43,Tryz.ntmps43
    go_wp2_with (first
     | go_skip
     | (refine at_load 24 (.tmp 6) (by rfl) ?_;refine wpList_load_row (by rfl) 24 (.tmp 6) (by rfl) (w.heap.size) (by rfl) 24 #[.int .i64 M,.slice A n c] (0,0) _ (K0.out.row 1 rfl) Tryz.underlying24 (by rfl) infoc_T ?_)
     | (go_at_call 36;(have hc:=(hr ((w.alloc (.cells #[.int .i64 M,.slice A n c] 24)).alloc (.cells #[.int .i64 0,.slice none 0 0] 24)) (K0.out.fs (A:=A) (n:=n) (xs:=xs) (by simp)));(with_reducible refine hc.mono ?_);clear hc);rintro e w1 ⟨rfl,hb⟩;have K1:Hid (EnvF w1 [fF A n xs] [(w.heap.size+1,#[.int .i64 0,.slice none 0 0],24),(w.heap.size,#[.int .i64 M,.slice A n c],24)]):=Lib.hid (K0.out.on hb);have B1:Hid (Below w.heap.size w w1):=Lib.hid (below_step B0.out hb);clear hb K0 B0)
     | (refine at_store 24 (.tmp 4) (.tmp 17) (by rfl) ?_;refine wpList_put (by rfl) 24 (.tmp 4) (.tmp 17) (by rfl) (w.heap.size+1) 0 (.agg #[.int .i64 0,.slice none 0 0]) (by rfl) (by rfl) 24 #[.int .i64 0,.slice none 0 0] #[.int .i64 0,.slice none 0 0] (K1.out.row 0 rfl) (by simp[Value.cells]) (by kernel_rfl) infoc_T (by kernel_rfl) ?_;intro w2 hrow hoth hz hbl;have K2:Hid (EnvF w2 [fF A n xs] [(w.heap.size+1,#[.int .i64 0,.slice none 0 0],24),(w.heap.size,#[.int .i64 M,.slice A n c],24)]):=Lib.hid (K1.out.turn 0 rfl hrow hoth hz);have B2:Hid (Below w.heap.size w w2):=Lib.hid (hbl _ _ (by omega) B1.out);clear hrow hoth hz hbl K1 B1))
    exact bodyPost_ret (res_cell_tmp rfl _ _ _ _ _ _ rfl (K2.out.row 0 rfl) Tryz.underlying24 rfl infoc_T) rfl ⟨_,rfl,OwnF.nil_ _ _ _,B2.out⟩
   ·have d0:decide (m<0)=false:=decide_eq_false hx
    have d1:decide (4096<m)=true:=decide_eq_true hy
    have K0:Hid (EnvF ((w.alloc (.cells #[.int .i64 M,.slice A n c] 24)).alloc (.cells #[.int .i64 0,.slice none 0 0] 24)) [fF A n xs] [(w.heap.size+1,#[.int .i64 0,.slice none 0 0],24),(w.heap.size,#[.int .i64 M,.slice A n c],24)]):=Lib.hid ((((EnvF.nil w).addF hA).boxg 24 #[.int .i64 M,.slice A n c] (w.heap.size) (by simp)).boxg 24 #[.int .i64 0,.slice none 0 0] (w.heap.size+1) (by simp))
    have B0:Hid (Below w.heap.size w ((w.alloc (.cells #[.int .i64 M,.slice A n c] 24)).alloc (.cells #[.int .i64 0,.slice none 0 0] 24))):=Lib.hid (((Below.refl _ w).alloc (by first | exact Nat.le_refl _ | (simp only[World.size_alloc];omega)) (.cells #[.int .i64 M,.slice A n c] 24)).alloc (by first | exact Nat.le_refl _ | (simp only[World.size_alloc];omega)) (.cells #[.int .i64 0,.slice none 0 0] 24))
    go_enter Tryz.func43,Tryz.ntmps43
    go_wp2_with (first
     | go_skip
     | (refine at_load 24 (.tmp 6) (by rfl) ?_;refine wpList_load_row (by rfl) 24 (.tmp 6) (by rfl) (w.heap.size) (by rfl) 24 #[.int .i64 M,.slice A n c] (0,0) _ (K0.out.row 1 rfl) Tryz.underlying24 (by rfl) infoc_T ?_)
     | (go_at_call 36;(have hc:=(hr ((w.alloc (.cells #[.int .i64 M,.slice A n c] 24)).alloc (.cells #[.int .i64 0,.slice none 0 0] 24)) (K0.out.fs (A:=A) (n:=n) (xs:=xs) (by simp)));(with_reducible refine hc.mono ?_);clear hc);rintro e w1 ⟨rfl,hb⟩;have K1:Hid (EnvF w1 [fF A n xs] [(w.heap.size+1,#[.int .i64 0,.slice none 0 0],24),(w.heap.size,#[.int .i64 M,.slice A n c],24)]):=Lib.hid (K0.out.on hb);have B1:Hid (Below w.heap.size w w1):=Lib.hid (below_step B0.out hb);clear hb K0 B0)
     | (refine at_store 24 (.tmp 4) (.tmp 17) (by rfl) ?_;refine wpList_put (by rfl) 24 (.tmp 4) (.tmp 17) (by rfl) (w.heap.size+1) 0 (.agg #[.int .i64 0,.slice none 0 0]) (by rfl) (by rfl) 24 #[.int .i64 0,.slice none 0 0] #[.int .i64 0,.slice none 0 0] (K1.out.row 0 rfl) (by simp[Value.cells]) (by kernel_rfl) infoc_T (by kernel_rfl) ?_;intro w2 hrow hoth hz hbl;have K2:Hid (EnvF w2 [fF A n xs] [(w.heap.size+1,#[.int .i64 0,.slice none 0 0],24),(w.heap.size,#[.int .i64 M,.slice A n c],24)]):=Lib.hid (K1.out.turn 0 rfl hrow hoth hz);have B2:Hid (Below w.heap.size w w2):=Lib.hid (hbl _ _ (by omega) B1.out);clear hrow hoth hz hbl K1 B1))
    exact bodyPost_ret (res_cell_tmp rfl _ _ _ _ _ _ rfl (K2.out.row 0 rfl) Tryz.underlying24 rfl infoc_T) rfl ⟨_,rfl,OwnF.nil_ _ _ _,B2.out⟩
 ·rw[Bool.not_eq_true] at h0
  rw[h0] at hr ⊢
  rw[Bool.false_and]
  have K0:Hid (EnvF ((w.alloc (.cells #[.int .i64 M,.slice A n c] 24)).alloc (.cells #[.int .i64 0,.slice none 0 0] 24)) [fF A n xs] [(w.heap.size+1,#[.int .i64 0,.slice none 0 0],24),(w.heap.size,#[.int .i64 M,.slice A n c],24)]):=Lib.hid ((((EnvF.nil w).addF hA).boxg 24 #[.int .i64 M,.slice A n c] (w.heap.size) (by simp)).boxg 24 #[.int .i64 0,.slice none 0 0] (w.heap.size+1) (by simp))
  have B0:Hid (Below w.heap.size w ((w.alloc (.cells #[.int .i64 M,.slice A n c] 24)).alloc (.cells #[.int .i64 0,.slice none 0 0] 24))):=Lib.hid (((Below.refl _ w).alloc (by first | exact Nat.le_refl _ | (simp only[World.size_alloc];omega)) (.cells #[.int .i64 M,.slice A n c] 24)).alloc (by first | exact Nat.le_refl _ | (simp only[World.size_alloc];omega)) (.cells #[.int .i64 0,.slice none 0 0] 24))
  go_enter Tryz.func43,Tryz.ntmps43
  go_wp2_with (first
   | go_skip
   | (refine at_load 24 (.tmp 6) (by rfl) ?_;refine wpList_load_row (by rfl) 24 (.tmp 6) (by rfl) (w.heap.size) (by rfl) 24 #[.int .i64 M,.slice A n c] (0,0) _ (K0.out.row 1 rfl) Tryz.underlying24 (by rfl) infoc_T ?_)
   | (go_at_call 36;(have hc:=(hr ((w.alloc (.cells #[.int .i64 M,.slice A n c] 24)).alloc (.cells #[.int .i64 0,.slice none 0 0] 24)) (K0.out.fs (A:=A) (n:=n) (xs:=xs) (by simp)));(with_reducible refine hc.mono ?_);clear hc);rintro e w1 ⟨rfl,hb⟩;have K1:Hid (EnvF w1 [fF A n xs] [(w.heap.size+1,#[.int .i64 0,.slice none 0 0],24),(w.heap.size,#[.int .i64 M,.slice A n c],24)]):=Lib.hid (K0.out.on hb);have B1:Hid (Below w.heap.size w w1):=Lib.hid (below_step B0.out hb);clear hb K0 B0)
   | (refine at_store 24 (.tmp 4) (.tmp 17) (by rfl) ?_;refine wpList_put (by rfl) 24 (.tmp 4) (.tmp 17) (by rfl) (w.heap.size+1) 0 (.agg #[.int .i64 0,.slice none 0 0]) (by rfl) (by rfl) 24 #[.int .i64 0,.slice none 0 0] #[.int .i64 0,.slice none 0 0] (K1.out.row 0 rfl) (by simp[Value.cells]) (by kernel_rfl) infoc_T (by kernel_rfl) ?_;intro w2 hrow hoth hz hbl;have K2:Hid (EnvF w2 [fF A n xs] [(w.heap.size+1,#[.int .i64 0,.slice none 0 0],24),(w.heap.size,#[.int .i64 M,.slice A n c],24)]):=Lib.hid (K1.out.turn 0 rfl hrow hoth hz);have B2:Hid (Below w.heap.size w w2):=Lib.hid (hbl _ _ (by omega) B1.out);clear hrow hoth hz hbl K1 B1))
  exact bodyPost_ret (res_cell_tmp rfl _ _ _ _ _ _ rfl (K2.out.row 0 rfl) Tryz.underlying24 rfl infoc_T) rfl ⟨_,rfl,OwnF.nil_ _ _ _,B2.out⟩
end Go.Proofs.YtahiajeggbpogaaGreatDoor
namespace Go.Proofs.YtahiajeggbpogaaGreatDoor
open Go.RowKit Tb
set_option linter.unusedVariables false
set_option linter.unusedSimpArgs false
def Tb.newM(m:Int):Int:=if okB m then m else 0
def Tb.newE(m:Int):Int:=if okB m then 0 else 2
theorem r_add(M:Int)(A:Option Addr)(n c:Nat)(xs:List Fd)(f:Fd)(w:World)(hA:Fs w w.heap.size A n xs)(hN:A=none→c=0)(hF:full xs≤100000)(hf:sz f≤100000) :
  Calls Tryz.prog 56 #[.agg #[.int .i64 M,.slice A n c],.agg #[.string f.1,.string f.2]] w fun e w'=>∃v,e = .returned (.tuple #[.agg #[.int .i64 (addM M xs),v],.int .i64 (addE M xs)])∧OwnF w' w.heap.size 27 v (addL M xs f)∧Below w.heap.size w w':=by
 have hr:=fun(w0:World) (h:Fs w0 w0.heap.size A n xs)=>r_right M A n c xs w0 h (by omega)
 have hn:=hA.1
 have hfl:=full_len xs
 have hff:full (f::xs)≤1000000:=by simp only[full];omega
 unfold addM addE addL
 by_cases h0:rightB M xs=true
 ·rw[h0] at hr ⊢
  have hm0:0≤M:=by unfold rightB okB at h0;rw[Bool.and_eq_true,Bool.and_eq_true] at h0;exact of_decide_eq_true h0.1.1
  obtain⟨i0,hi,hz0,hz1,hz2⟩:=info_parts info_fld
  have hinf:=Lib.hid (And.intro hi (And.intro hz0 (And.intro hz1 hz2)))
  clear hi hz0 hz1 hz2 h0
  have K0:Hid (EnvF (((w.alloc (.cells #[.int .i64 M,.slice A n c] 24)).alloc (.cells #[.string f.1,.string f.2] 27)).alloc (.cells #[.int .i64 0,.slice none 0 0] 24)) [fF A n xs] [(w.heap.size+1+1,#[.int .i64 0,.slice none 0 0],24),(w.heap.size+1,#[.string f.1,.string f.2],27),(w.heap.size,#[.int .i64 M,.slice A n c],24)]):=Lib.hid (((((EnvF.nil w).addF hA).boxg 24 #[.int .i64 M,.slice A n c] (w.heap.size) (by simp)).boxg 27 #[.string f.1,.string f.2] (w.heap.size+1) (by simp)).boxg 24 #[.int .i64 0,.slice none 0 0] (w.heap.size+1+1) (by simp))
  have B0:Hid (Below w.heap.size w (((w.alloc (.cells #[.int .i64 M,.slice A n c] 24)).alloc (.cells #[.string f.1,.string f.2] 27)).alloc (.cells #[.int .i64 0,.slice none 0 0] 24))):=Lib.hid ((((Below.refl _ w).alloc (by first | exact Nat.le_refl _ | (simp only[World.size_alloc];omega)) (.cells #[.int .i64 M,.slice A n c] 24)).alloc (by first | exact Nat.le_refl _ | (simp only[World.size_alloc];omega)) (.cells #[.string f.1,.string f.2] 27)).alloc (by first | exact Nat.le_refl _ | (simp only[World.size_alloc];omega)) (.cells #[.int .i64 0,.slice none 0 0] 24))
  go_enter Tryz.func56,Tryz.ntmps56
  go_wp2_with (first
   | go_skip
   | (refine at_load 24 (.tmp 6) (by rfl) ?_;refine wpList_load_row (by rfl) 24 (.tmp 6) (by rfl) (w.heap.size) (by rfl) 24 #[.int .i64 M,.slice A n c] (0,0) _ (K0.out.row 2 rfl) Tryz.underlying24 (by rfl) infoc_T ?_)
   | (go_at_call 36;(have hc:=(hr (((w.alloc (.cells #[.int .i64 M,.slice A n c] 24)).alloc (.cells #[.string f.1,.string f.2] 27)).alloc (.cells #[.int .i64 0,.slice none 0 0] 24)) (K0.out.fs (A:=A) (n:=n) (xs:=xs) (by simp)));(with_reducible refine hc.mono ?_);clear hc);rintro e w1 ⟨rfl,hb⟩;have K1:Hid (EnvF w1 [fF A n xs] [(w.heap.size+1+1,#[.int .i64 0,.slice none 0 0],24),(w.heap.size+1,#[.string f.1,.string f.2],27),(w.heap.size,#[.int .i64 M,.slice A n c],24)]):=Lib.hid (K0.out.on hb);have B1:Hid (Below w.heap.size w w1):=Lib.hid (below_step B0.out hb);have hl1:=(cells2_row ((K1.out.al (.cells #[.string f.1,.string f.2] 27)).row 2 rfl)).2;clear hb K0 B0)
   | (refine at_load 27 (.tmp 3) (by rfl) ?_;refine wpList_load_row (by rfl) 27 (.tmp 3) (by rfl) (w.heap.size+1) (by rfl) 27 #[.string f.1,.string f.2] (0,0) _ (K1.out.row 1 rfl) Tryz.underlying27 (by rfl) infoc_D ?_)
   | (at_builtin;refine wpList_append_flds _ rfl (.tmp 11) (.tmp 13) 22 rfl (w1.heap.size) 27 i0 Tryz.underlying22 hinf.out.1 hinf.out.2.1 hinf.out.2.2.1 hinf.out.2.2.2 _ [f] rfl (OwnF.litn w1 27 _ (Nat.le_refl _) _ rfl [f] _ (by simp[fdc]) 1 rfl (by omega)) _ A n c xs rfl ((K1.out.fs (A:=A) (n:=n) (xs:=xs) (by simp)).alloc (Nat.le_refl _) (.cells #[.string f.1,.string f.2] 27)) hN (by simp;omega) (by simp) ?_;intro v4 w4 hown4 hb4 hg4 _;rw[List.singleton_append] at hown4;obtain⟨A4,c4,rfl,_⟩:=hown4.form2 (n:=n+1) (by simp;omega);have hb5:=((Below.refl (w1.heap.size) w1).alloc (Nat.le_refl _) (.cells #[.string f.1,.string f.2] 27)).trans hb4;have K2:Hid (EnvF w4 [oF w.heap.size 27 (.slice A4 (n+1) c4) (f::xs),fF A4 (n+1) (f::xs),fF A n xs] [(w.heap.size+1+1,#[.int .i64 0,.slice none 0 0],24),(w.heap.size+1,#[.string f.1,.string f.2],27),(w.heap.size,#[.int .i64 M,.slice A n c],24)]):=Lib.hid (K1.out.handO hb5 hown4 B1.out.size);have B2:Hid (Below w.heap.size w w4):=Lib.hid (below_step B1.out hb5);clear hown4 hb4 hg4 hb5 hl1 K1 B1)
   | (refine at_store 22 (.tmp 15) (.tmp 14) (by rfl) ?_;refine wpList_put (by rfl) 22 (.tmp 15) (.tmp 14) (by rfl) (w.heap.size) 1 (.slice A4 (n+1) c4) (by rfl) (by rfl) 24 #[.int .i64 M,.slice A n c] #[.int .i64 M,.slice A4 (n+1) c4] (K2.out.row 2 rfl) (by simp[Value.cells]) (by kernel_rfl) infoc_L (by kernel_rfl) ?_;intro w3 hrow hoth hz hbl;have K3:Hid (EnvF w3 [oF w.heap.size 27 (.slice A4 (n+1) c4) (f::xs),fF A4 (n+1) (f::xs),fF A n xs] [(w.heap.size+1+1,#[.int .i64 0,.slice none 0 0],24),(w.heap.size+1,#[.string f.1,.string f.2],27),(w.heap.size,#[.int .i64 M,.slice A4 (n+1) c4],24)]):=Lib.hid (K2.out.turn 2 rfl hrow hoth hz);have B3:Hid (Below w.heap.size w w3):=Lib.hid (hbl _ _ (Nat.le_refl _) B2.out);clear hrow hoth hz hbl K2 B2)
   | (refine at_load 24 (.tmp 2) (by rfl) ?_;refine wpList_load_row (by rfl) 24 (.tmp 2) (by rfl) (w.heap.size) (by rfl) 24 #[.int .i64 M,.slice A4 (n+1) c4] (0,0) _ (K3.out.row 2 rfl) Tryz.underlying24 (by rfl) infoc_T ?_)
   | (go_at_call 64;(have hc:=(r_evicted M A4 (n+1) c4 (f::xs) w3 (K3.out.fs (A:=A4) (n:=n+1) (xs:=f::xs) (by simp)) (fun h=>by obtain⟨_,_,e,_,h2,_⟩:=(K3.out.own (B:=w.heap.size) (t:=27) (v:=.slice A4 (n+1) c4) (xs:=f::xs) (by simp)).form2 (n:=n+1) (by simp;omega);cases e;exact h2 h) hff hm0);(with_reducible refine hc.mono ?_);clear hc);rintro e w4 ⟨v3,rfl,ho,hb⟩;obtain⟨A3,c3,rfl,_⟩:=ho.form2 (n:=fit M (f::xs)) (keep_len M _);have K4:Hid (EnvF w4 [oF w.heap.size 27 (.slice A3 (fit M (f::xs)) c3) (keep M (f::xs)),fF A3 (fit M (f::xs)) (keep M (f::xs)),oF w.heap.size 27 (.slice A4 (n+1) c4) (f::xs),fF A4 (n+1) (f::xs),fF A n xs] [(w.heap.size+1+1,#[.int .i64 0,.slice none 0 0],24),(w.heap.size+1,#[.string f.1,.string f.2],27),(w.heap.size,#[.int .i64 M,.slice A4 (n+1) c4],24)]):=Lib.hid (K3.out.handO hb ho B3.out.size);have B4:Hid (Below w.heap.size w w4):=Lib.hid (below_step B3.out hb);clear hb ho K3 B3)
   | (refine at_store 24 (.tmp 4) (.tmp 17) (by rfl) ?_;refine wpList_put (by rfl) 24 (.tmp 4) (.tmp 17) (by rfl) (w.heap.size+1+1) 0 (.agg #[.int .i64 M,.slice A3 (fit M (f::xs)) c3]) (by rfl) (by rfl) 24 #[.int .i64 0,.slice none 0 0] #[.int .i64 M,.slice A3 (fit M (f::xs)) c3] (K4.out.row 0 rfl) (by simp[Value.cells]) (by kernel_rfl) infoc_T (by kernel_rfl) ?_;intro w5 hrow hoth hz hbl;have K5:Hid (EnvF w5 [oF w.heap.size 27 (.slice A3 (fit M (f::xs)) c3) (keep M (f::xs)),fF A3 (fit M (f::xs)) (keep M (f::xs)),oF w.heap.size 27 (.slice A4 (n+1) c4) (f::xs),fF A4 (n+1) (f::xs),fF A n xs] [(w.heap.size+1+1,#[.int .i64 M,.slice A3 (fit M (f::xs)) c3],24),(w.heap.size+1,#[.string f.1,.string f.2],27),(w.heap.size,#[.int .i64 M,.slice A4 (n+1) c4],24)]):=Lib.hid (K4.out.turn 0 rfl hrow hoth hz);have B5:Hid (Below w.heap.size w w5):=Lib.hid (hbl _ _ (by omega) B4.out);clear hrow hoth hz hbl K4 B4))
  exact bodyPost_ret (res_cell_tmp rfl _ _ _ _ _ _ rfl (K5.out.row 0 rfl) Tryz.underlying24 rfl infoc_T) rfl ⟨_,rfl,(K5.out.own (B:=w.heap.size) (t:=27) (v:=.slice A3 (fit M (f::xs)) c3) (xs:=keep M (f::xs)) (by simp)),B5.out⟩
 ·rw[Bool.not_eq_true] at h0
  rw[h0] at hr ⊢
  have K0:Hid (EnvF (((w.alloc (.cells #[.int .i64 M,.slice A n c] 24)).alloc (.cells #[.string f.1,.string f.2] 27)).alloc (.cells #[.int .i64 0,.slice none 0 0] 24)) [fF A n xs] [(w.heap.size+1+1,#[.int .i64 0,.slice none 0 0],24),(w.heap.size+1,#[.string f.1,.string f.2],27),(w.heap.size,#[.int .i64 M,.slice A n c],24)]):=Lib.hid (((((EnvF.nil w).addF hA).boxg 24 #[.int .i64 M,.slice A n c] (w.heap.size) (by simp)).boxg 27 #[.string f.1,.string f.2] (w.heap.size+1) (by simp)).boxg 24 #[.int .i64 0,.slice none 0 0] (w.heap.size+1+1) (by simp))
  have B0:Hid (Below w.heap.size w (((w.alloc (.cells #[.int .i64 M,.slice A n c] 24)).alloc (.cells #[.string f.1,.string f.2] 27)).alloc (.cells #[.int .i64 0,.slice none 0 0] 24))):=Lib.hid ((((Below.refl _ w).alloc (by first | exact Nat.le_refl _ | (simp only[World.size_alloc];omega)) (.cells #[.int .i64 M,.slice A n c] 24)).alloc (by first | exact Nat.le_refl _ | (simp only[World.size_alloc];omega)) (.cells #[.string f.1,.string f.2] 27)).alloc (by first | exact Nat.le_refl _ | (simp only[World.size_alloc];omega)) (.cells #[.int .i64 0,.slice none 0 0] 24))
  go_enter Tryz.func56,Tryz.ntmps56
  go_wp2_with (first
   | go_skip
   | (refine at_load 24 (.tmp 6) (by rfl) ?_;refine wpList_load_row (by rfl) 24 (.tmp 6) (by rfl) (w.heap.size) (by rfl) 24 #[.int .i64 M,.slice A n c] (0,0) _ (K0.out.row 2 rfl) Tryz.underlying24 (by rfl) infoc_T ?_)
   | (go_at_call 36;(have hc:=(hr (((w.alloc (.cells #[.int .i64 M,.slice A n c] 24)).alloc (.cells #[.string f.1,.string f.2] 27)).alloc (.cells #[.int .i64 0,.slice none 0 0] 24)) (K0.out.fs (A:=A) (n:=n) (xs:=xs) (by simp)));(with_reducible refine hc.mono ?_);clear hc);rintro e w1 ⟨rfl,hb⟩;have K1:Hid (EnvF w1 [fF A n xs] [(w.heap.size+1+1,#[.int .i64 0,.slice none 0 0],24),(w.heap.size+1,#[.string f.1,.string f.2],27),(w.heap.size,#[.int .i64 M,.slice A n c],24)]):=Lib.hid (K0.out.on hb);have B1:Hid (Below w.heap.size w w1):=Lib.hid (below_step B0.out hb);clear hb K0 B0)
   | (refine at_store 24 (.tmp 4) (.tmp 9) (by rfl) ?_;refine wpList_put (by rfl) 24 (.tmp 4) (.tmp 9) (by rfl) (w.heap.size+1+1) 0 (.agg #[.int .i64 0,.slice none 0 0]) (by rfl) (by rfl) 24 #[.int .i64 0,.slice none 0 0] #[.int .i64 0,.slice none 0 0] (K1.out.row 0 rfl) (by simp[Value.cells]) (by kernel_rfl) infoc_T (by kernel_rfl) ?_;intro w2 hrow hoth hz hbl;have K2:Hid (EnvF w2 [fF A n xs] [(w.heap.size+1+1,#[.int .i64 0,.slice none 0 0],24),(w.heap.size+1,#[.string f.1,.string f.2],27),(w.heap.size,#[.int .i64 M,.slice A n c],24)]):=Lib.hid (K1.out.turn 0 rfl hrow hoth hz);have B2:Hid (Below w.heap.size w w2):=Lib.hid (hbl _ _ (by omega) B1.out);clear hrow hoth hz hbl K1 B1))
  exact bodyPost_ret (res_cell_tmp rfl _ _ _ _ _ _ rfl (K2.out.row 0 rfl) Tryz.underlying24 rfl infoc_T) rfl ⟨_,rfl,OwnF.nil_ _ _ _,B2.out⟩
end Go.Proofs.YtahiajeggbpogaaGreatDoor
namespace Go.Proofs.YtahiajeggbpogaaGreatDoor
open Go.RowKit Tb
set_option linter.unusedVariables false
set_option linter.unusedSimpArgs false
theorem Tb.cell_st2{w:World}{g b o:Nat}{a c v:Value}(h:w.cell? ⟨b,o,none⟩=some v)(hne:b≠g):((w.setCell ⟨g,0,none⟩ a).setCell ⟨g,1,none⟩ c).cell? ⟨b,o,none⟩=some v:=
 (World.cell?_setCell_other _ _ _ _ (fun e=>by cases e;exact hne rfl)).trans ((World.cell?_setCell_other _ _ _ _ (fun e=>by cases e;exact hne rfl)).trans h)
theorem t_add(M:Int)(A:Option Addr)(n c:Nat)(xs:List Fd)(f:Fd)(w:World)(hA:Fs w w.heap.size A n xs)(hN:A=none→c=0)(hF:full xs≤100000)(hf:sz f≤100000) :
  Calls Tryz.prog 88 #[.agg #[.int .i64 M,.slice A n c],.agg #[.string f.1,.string f.2]] w fun e w'=>∃v,e = .returned (.tuple #[.agg #[.int .i64 (addM M xs),v],.int .i64 (addE M xs)])∧OwnF w' w.heap.size 27 v (addL M xs f)∧Below w.heap.size w w':=by
 have hr:=fun(w0:World) (h:Fs w0 w0.heap.size A n xs)=>t_right M A n c xs w0 h (by omega)
 have hn:=hA.1
 have hfl:=full_len xs
 have hff:full (f::xs)≤1000000:=by simp only[full];omega
 unfold addM addE addL
 by_cases h0:rightB M xs=true
 ·rw[h0] at hr ⊢
  have hm0:0≤M:=by unfold rightB okB at h0;rw[Bool.and_eq_true,Bool.and_eq_true] at h0;exact of_decide_eq_true h0.1.1
  obtain⟨i0,hi,hz0,hz1,hz2⟩:=info_parts info_fld
  have hinf:=Lib.hid (And.intro hi (And.intro hz0 (And.intro hz1 hz2)))
  clear hi hz0 hz1 hz2 h0
  have K0:Hid (EnvF (((w.alloc (.cells #[.int .i64 M,.slice A n c] 24)).alloc (.cells #[.string f.1,.string f.2] 27)).alloc (.cells #[.int .i64 0,.slice none 0 0] 24)) [fF A n xs] [(w.heap.size+1+1,#[.int .i64 0,.slice none 0 0],24),(w.heap.size+1,#[.string f.1,.string f.2],27),(w.heap.size,#[.int .i64 M,.slice A n c],24)]):=Lib.hid (((((EnvF.nil w).addF hA).boxg 24 #[.int .i64 M,.slice A n c] (w.heap.size) (by simp)).boxg 27 #[.string f.1,.string f.2] (w.heap.size+1) (by simp)).boxg 24 #[.int .i64 0,.slice none 0 0] (w.heap.size+1+1) (by simp))
  have B0:Hid (Below w.heap.size w (((w.alloc (.cells #[.int .i64 M,.slice A n c] 24)).alloc (.cells #[.string f.1,.string f.2] 27)).alloc (.cells #[.int .i64 0,.slice none 0 0] 24))):=Lib.hid ((((Below.refl _ w).alloc (by first | exact Nat.le_refl _ | (simp only[World.size_alloc];omega)) (.cells #[.int .i64 M,.slice A n c] 24)).alloc (by first | exact Nat.le_refl _ | (simp only[World.size_alloc];omega)) (.cells #[.string f.1,.string f.2] 27)).alloc (by first | exact Nat.le_refl _ | (simp only[World.size_alloc];omega)) (.cells #[.int .i64 0,.slice none 0 0] 24))
  go_enter Tryz.func88,Tryz.ntmps88
  go_wp2_with (first
   | go_skip
   | (refine at_load 24 (.tmp 6) (by rfl) ?_;refine wpList_load_row (by rfl) 24 (.tmp 6) (by rfl) (w.heap.size) (by rfl) 24 #[.int .i64 M,.slice A n c] (0,0) _ (K0.out.row 2 rfl) Tryz.underlying24 (by rfl) infoc_T ?_)
   | (go_at_call 81;(have hc:=(hr (((w.alloc (.cells #[.int .i64 M,.slice A n c] 24)).alloc (.cells #[.string f.1,.string f.2] 27)).alloc (.cells #[.int .i64 0,.slice none 0 0] 24)) (K0.out.fs (A:=A) (n:=n) (xs:=xs) (by simp)));(with_reducible refine hc.mono ?_);clear hc);rintro e w1 ⟨rfl,hb⟩;have K1:Hid (EnvF w1 [fF A n xs] [(w.heap.size+1+1,#[.int .i64 0,.slice none 0 0],24),(w.heap.size+1,#[.string f.1,.string f.2],27),(w.heap.size,#[.int .i64 M,.slice A n c],24)]):=Lib.hid (K0.out.on hb);have B1:Hid (Below w.heap.size w w1):=Lib.hid (below_step B0.out hb);clear hb K0 B0))
  have SH0:Hid ((w1.cell? ⟨w.heap.size,0,none⟩=some (.int .i64 M)∧w1.cell? ⟨w.heap.size,1,none⟩=some (.slice A n c))∧(w1.cell? ⟨w.heap.size+1,0,none⟩=some (.string f.1)∧w1.cell? ⟨w.heap.size+1,1,none⟩=some (.string f.2))):=Lib.hid ⟨cells2_row (K1.out.row 2 rfl),cells2_row (K1.out.row 1 rfl)⟩
  have SHd:Hid ((w1.drew.cell? ⟨w.heap.size,0,none⟩=some (.int .i64 M)∧w1.drew.cell? ⟨w.heap.size,1,none⟩=some (.slice A n c))∧(w1.drew.cell? ⟨w.heap.size+1,0,none⟩=some (.string f.1)∧w1.drew.cell? ⟨w.heap.size+1,1,none⟩=some (.string f.2))):=SH0
  have SHl:Hid (((w1.drew.alloc (.cells #[.string f.1,.string f.2] 27)).cell? ⟨w.heap.size,0,none⟩=some (.int .i64 M)∧(w1.drew.alloc (.cells #[.string f.1,.string f.2] 27)).cell? ⟨w.heap.size,1,none⟩=some (.slice A n c))∧((w1.drew.alloc (.cells #[.string f.1,.string f.2] 27)).cell? ⟨w.heap.size+1,0,none⟩=some (.string f.1)∧(w1.drew.alloc (.cells #[.string f.1,.string f.2] 27)).cell? ⟨w.heap.size+1,1,none⟩=some (.string f.2))):=Lib.hid ⟨cells2_row ((K1.out.drew.al (.cells #[.string f.1,.string f.2] 27)).row 2 rfl),cells2_row ((K1.out.drew.al (.cells #[.string f.1,.string f.2] 27)).row 1 rfl)⟩
  have SHm:Hid (((w1.alloc (.cells #[.string f.1,.string f.2] 27)).drew.cell? ⟨w.heap.size,0,none⟩=some (.int .i64 M)∧(w1.alloc (.cells #[.string f.1,.string f.2] 27)).drew.cell? ⟨w.heap.size,1,none⟩=some (.slice A n c))∧((w1.alloc (.cells #[.string f.1,.string f.2] 27)).drew.cell? ⟨w.heap.size+1,0,none⟩=some (.string f.1)∧(w1.alloc (.cells #[.string f.1,.string f.2] 27)).drew.cell? ⟨w.heap.size+1,1,none⟩=some (.string f.2))):=Lib.hid ⟨cells2_row ((K1.out.al (.cells #[.string f.1,.string f.2] 27)).drew.row 2 rfl),cells2_row ((K1.out.al (.cells #[.string f.1,.string f.2] 27)).drew.row 1 rfl)⟩
  have KD:Hid (EnvF (w1.drew.alloc (.cells #[.string f.1,.string f.2] 27)) [fF A n xs] [(w.heap.size+1+1,#[.int .i64 0,.slice none 0 0],24),(w.heap.size+1,#[.string f.1,.string f.2],27),(w.heap.size,#[.int .i64 M,.slice A n c],24)]):=Lib.hid (K1.out.drew.al (.cells #[.string f.1,.string f.2] 27))
  have OL:Hid (OwnF (w1.drew.alloc (.cells #[.string f.1,.string f.2] 27)) w1.heap.size 27 (.slice (some ⟨w1.heap.size,0,none⟩) 1 1) [f]):=Lib.hid (OwnF.litn w1.drew 27 _ (Nat.le_refl _) _ rfl [f] _ (by simp[fdc]) 1 rfl (by omega))
  have hB1:=B1.out.size
  have hw1:w.heap.size+1+1+1≤w1.heap.size:=K1.out.lt (y:=(w.heap.size+1+1,#[.int .i64 0,.slice none 0 0],24)) (by simp)
  go_region_held3 (fun W'=>(W'.cell? ⟨w.heap.size,0,none⟩=some (.int .i64 M)∧W'.cell? ⟨w.heap.size,1,none⟩=some (.slice A n c))∧(W'.cell? ⟨w.heap.size+1,0,none⟩=some (.string f.1)∧W'.cell? ⟨w.heap.size+1,1,none⟩=some (.string f.2))) (first | with_reducible exact SHd.out | with_reducible exact SHl.out | with_reducible exact SHm.out | with_reducible exact SH4.out | with_reducible exact SH5.out | with_reducible exact SH6.out)
   (first
    | (refine step_append_flds _ (by rfl) (.tmp 13) (.tmp 15) 22 (by rfl) (w1.heap.size) 27 i0 Tryz.underlying22 hinf.out.1 hinf.out.2.1 hinf.out.2.2.1 hinf.out.2.2.2 _ [f] (by rfl) OL.out _ A n c xs (by rfl) (KD.out.fs (A:=A) (n:=n) (xs:=xs) (by simp)) hN (by simp;omega) (by simp) ?_;intro v4 w4 hown4 hb4 hg4 _;rw[List.singleton_append] at hown4;obtain⟨A4,c4,rfl,_⟩:=hown4.form2 (n:=n+1) (by simp;omega);have hb5:=((Below.refl (w1.heap.size) w1).drew.alloc (Nat.le_refl _) (.cells #[.string f.1,.string f.2] 27)).trans hb4;have K4:=Lib.hid (K1.out.handO hb5 hown4 B1.out.size);have B4:=Lib.hid (below_step B1.out hb5);have SH4:Hid ((w4.cell? ⟨w.heap.size,0,none⟩=some (.int .i64 M)∧w4.cell? ⟨w.heap.size,1,none⟩=some (.slice A n c))∧(w4.cell? ⟨w.heap.size+1,0,none⟩=some (.string f.1)∧w4.cell? ⟨w.heap.size+1,1,none⟩=some (.string f.2))):=Lib.hid ⟨cells2_row (K4.out.row 2 rfl),cells2_row (K4.out.row 1 rfl)⟩;clear hown4 hb4 hg4 hb5)
    | (go_at_call 83;(have hc:=t_evicted M A4 (n+1) c4 (f::xs) w4 (K4.out.fs (A:=A4) (n:=n+1) (xs:=f::xs) (by simp)) hff hm0;(with_reducible refine hc.mono ?_);clear hc);rintro e w5 ⟨v5,rfl,ho,hb⟩;obtain⟨A5,c5,rfl,_⟩:=ho.form2 (n:=fit M (f::xs)) (keep_len M _);have K5:=Lib.hid (K4.out.handO hb ho B4.out.size);have B5:=Lib.hid (below_step B4.out hb);have SH5:Hid ((w5.cell? ⟨w.heap.size,0,none⟩=some (.int .i64 M)∧w5.cell? ⟨w.heap.size,1,none⟩=some (.slice A n c))∧(w5.cell? ⟨w.heap.size+1,0,none⟩=some (.string f.1)∧w5.cell? ⟨w.heap.size+1,1,none⟩=some (.string f.2))):=Lib.hid ⟨cells2_row (K5.out.row 2 rfl),cells2_row (K5.out.row 1 rfl)⟩;obtain⟨p0,p1⟩:=cells2_row (K5.out.row 0 rfl);have z0:=frozen_of_row _ _ 0 _ _ (K5.out.row 0 rfl);have z1:=frozen_of_row _ _ 1 _ _ (K5.out.row 0 rfl);have SH6:Hid ((((w5.setCell ⟨w.heap.size+1+1,0,none⟩ (.int .i64 M)).setCell ⟨w.heap.size+1+1,1,none⟩ (.slice A5 (fit M (f::xs)) c5)).cell? ⟨w.heap.size,0,none⟩=some (.int .i64 M)∧((w5.setCell ⟨w.heap.size+1+1,0,none⟩ (.int .i64 M)).setCell ⟨w.heap.size+1+1,1,none⟩ (.slice A5 (fit M (f::xs)) c5)).cell? ⟨w.heap.size,1,none⟩=some (.slice A n c))∧(((w5.setCell ⟨w.heap.size+1+1,0,none⟩ (.int .i64 M)).setCell ⟨w.heap.size+1+1,1,none⟩ (.slice A5 (fit M (f::xs)) c5)).cell? ⟨w.heap.size+1,0,none⟩=some (.string f.1)∧((w5.setCell ⟨w.heap.size+1+1,0,none⟩ (.int .i64 M)).setCell ⟨w.heap.size+1+1,1,none⟩ (.slice A5 (fit M (f::xs)) c5)).cell? ⟨w.heap.size+1,1,none⟩=some (.string f.2))):=Lib.hid ⟨⟨cell_st2 SH5.out.1.1 (by omega),cell_st2 SH5.out.1.2 (by omega)⟩,⟨cell_st2 SH5.out.2.1 (by omega),cell_st2 SH5.out.2.2 (by omega)⟩⟩;clear ho hb))
  all_goals
   have KA:=Lib.hid (K5.out.setCells 0 rfl [.int .i64 M,.slice A5 (fit M (f::xs)) c5] (cs:=#[.int .i64 M,.slice A5 (fit M (f::xs)) c5]) (by kernel_rfl))
   have hr:=KA.out.row 0 rfl
   have ho:=KA.out.own (B:=w.heap.size) (t:=27) (v:=.slice A5 (fit M (f::xs)) c5) (xs:=keep M (f::xs)) (by simp)
   have hbb:=setCells_below (g:=w.heap.size+1+1) (by omega) [.int .i64 M,.slice A5 (fit M (f::xs)) c5] 0 _ _ B5.out
   simp only[World.setCells,Nat.reduceAdd] at hr ho hbb
   go_wp2
   exact bodyPost_ret (res_cell_tmp rfl _ _ _ _ _ _ rfl hr Tryz.underlying24 rfl infoc_T) rfl ⟨_,rfl,ho,hbb⟩
 ·rw[Bool.not_eq_true] at h0
  rw[h0] at hr ⊢
  have K0:Hid (EnvF (((w.alloc (.cells #[.int .i64 M,.slice A n c] 24)).alloc (.cells #[.string f.1,.string f.2] 27)).alloc (.cells #[.int .i64 0,.slice none 0 0] 24)) [fF A n xs] [(w.heap.size+1+1,#[.int .i64 0,.slice none 0 0],24),(w.heap.size+1,#[.string f.1,.string f.2],27),(w.heap.size,#[.int .i64 M,.slice A n c],24)]):=Lib.hid (((((EnvF.nil w).addF hA).boxg 24 #[.int .i64 M,.slice A n c] (w.heap.size) (by simp)).boxg 27 #[.string f.1,.string f.2] (w.heap.size+1) (by simp)).boxg 24 #[.int .i64 0,.slice none 0 0] (w.heap.size+1+1) (by simp))
  have B0:Hid (Below w.heap.size w (((w.alloc (.cells #[.int .i64 M,.slice A n c] 24)).alloc (.cells #[.string f.1,.string f.2] 27)).alloc (.cells #[.int .i64 0,.slice none 0 0] 24))):=Lib.hid ((((Below.refl _ w).alloc (by first | exact Nat.le_refl _ | (simp only[World.size_alloc];omega)) (.cells #[.int .i64 M,.slice A n c] 24)).alloc (by first | exact Nat.le_refl _ | (simp only[World.size_alloc];omega)) (.cells #[.string f.1,.string f.2] 27)).alloc (by first | exact Nat.le_refl _ | (simp only[World.size_alloc];omega)) (.cells #[.int .i64 0,.slice none 0 0] 24))
  go_enter Tryz.func88,Tryz.ntmps88
  go_wp2_with (first
   | go_skip
   | (refine at_load 24 (.tmp 6) (by rfl) ?_;refine wpList_load_row (by rfl) 24 (.tmp 6) (by rfl) (w.heap.size) (by rfl) 24 #[.int .i64 M,.slice A n c] (0,0) _ (K0.out.row 2 rfl) Tryz.underlying24 (by rfl) infoc_T ?_)
   | (go_at_call 81;(have hc:=(hr (((w.alloc (.cells #[.int .i64 M,.slice A n c] 24)).alloc (.cells #[.string f.1,.string f.2] 27)).alloc (.cells #[.int .i64 0,.slice none 0 0] 24)) (K0.out.fs (A:=A) (n:=n) (xs:=xs) (by simp)));(with_reducible refine hc.mono ?_);clear hc);rintro e w1 ⟨rfl,hb⟩;have K1:Hid (EnvF w1 [fF A n xs] [(w.heap.size+1+1,#[.int .i64 0,.slice none 0 0],24),(w.heap.size+1,#[.string f.1,.string f.2],27),(w.heap.size,#[.int .i64 M,.slice A n c],24)]):=Lib.hid (K0.out.on hb);have B1:Hid (Below w.heap.size w w1):=Lib.hid (below_step B0.out hb);clear hb K0 B0)
   | (refine at_store 24 (.tmp 4) (.tmp 9) (by rfl) ?_;refine wpList_put (by rfl) 24 (.tmp 4) (.tmp 9) (by rfl) (w.heap.size+1+1) 0 (.agg #[.int .i64 0,.slice none 0 0]) (by rfl) (by rfl) 24 #[.int .i64 0,.slice none 0 0] #[.int .i64 0,.slice none 0 0] (K1.out.row 0 rfl) (by simp[Value.cells]) (by kernel_rfl) infoc_T (by kernel_rfl) ?_;intro w2 hrow hoth hz hbl;have K2:Hid (EnvF w2 [fF A n xs] [(w.heap.size+1+1,#[.int .i64 0,.slice none 0 0],24),(w.heap.size+1,#[.string f.1,.string f.2],27),(w.heap.size,#[.int .i64 M,.slice A n c],24)]):=Lib.hid (K1.out.turn 0 rfl hrow hoth hz);have B2:Hid (Below w.heap.size w w2):=Lib.hid (hbl _ _ (by omega) B1.out);clear hrow hoth hz hbl K1 B1))
  exact bodyPost_ret (res_cell_tmp rfl _ _ _ _ _ _ rfl (K2.out.row 0 rfl) Tryz.underlying24 rfl infoc_T) rfl ⟨_,rfl,OwnF.nil_ _ _ _,B2.out⟩
end Go.Proofs.YtahiajeggbpogaaGreatDoor
namespace Go.Proofs.YtahiajeggbpogaaGreatDoor
open Go.RowKit Tb
set_option linter.unusedVariables false
set_option linter.unusedSimpArgs false
theorem Tb.i64_bounds{n:Int}(h:(Lit.int .i64 n).wf=true) : -9223372036854775808≤n∧n≤9223372036854775807:=by
 simpa [Lit.wf,IntKind.min,IntKind.max,IntKind.signed,IntKind.bits] using h
theorem r_at(M:Int)(A:Option Addr)(n c:Nat)(xs:List Fd)(i:Int)(w:World)(hA:Fs w w.heap.size A n xs)(hnm:n≤1000000)(hi:(Lit.int .i64 i).wf=true) :
  Calls Tryz.prog 66 #[.agg #[.int .i64 M,.slice A n c],.int .i64 i] w fun e w'=>e = .returned (.tuple #[fdv (atV xs i),.int .i64 (atE xs i)])∧Below w.heap.size w w':=by
 have hb:=i64_bounds hi
 have hn:=hA.1
 clear hi
 by_cases h1:i<1
 ·unfold atV atE
  rw[atO_low xs i h1]
  have d1:decide (i<21)=true:=decide_eq_true (by omega)
  have hs : ∀w0,Calls Tryz.prog 90 #[.int .i64 i] w0 fun e w'=>e = .returned (.tuple #[.agg #[.string (fd0).1,.string (fd0).2],.bool false])∧Below w0.heap.size w0 w':=fun w0=>r_static_no i w0 (.inl h1)
  have K0:Hid (EnvF ((w.alloc (.cells #[.int .i64 M,.slice A n c] 24)).alloc (.cells #[.string ⟨#[]⟩,.string ⟨#[]⟩] 27)) [fF A n xs] [(w.heap.size+1,#[.string ⟨#[]⟩,.string ⟨#[]⟩],27),(w.heap.size,#[.int .i64 M,.slice A n c],24)]):=Lib.hid ((((EnvF.nil w).addF hA).boxg 24 #[.int .i64 M,.slice A n c] (w.heap.size) (by simp)).boxg 27 #[.string ⟨#[]⟩,.string ⟨#[]⟩] (w.heap.size+1) (by simp))
  have B0:Hid (Below w.heap.size w ((w.alloc (.cells #[.int .i64 M,.slice A n c] 24)).alloc (.cells #[.string ⟨#[]⟩,.string ⟨#[]⟩] 27))):=Lib.hid (((Below.refl _ w).alloc (by first | exact Nat.le_refl _ | (simp only[World.size_alloc];omega)) (.cells #[.int .i64 M,.slice A n c] 24)).alloc (by first | exact Nat.le_refl _ | (simp only[World.size_alloc];omega)) (.cells #[.string ⟨#[]⟩,.string ⟨#[]⟩] 27))
  go_enter Tryz.func66,Tryz.ntmps66
  go_wp2_with (first
   | go_skip
   | (go_at_call 90;(have hc:=(hs ((w.alloc (.cells #[.int .i64 M,.slice A n c] 24)).alloc (.cells #[.string ⟨#[]⟩,.string ⟨#[]⟩] 27)));(with_reducible refine hc.mono ?_);clear hc);rintro e w1 ⟨rfl,hb⟩;have K1:Hid (EnvF w1 [fF A n xs] [(w.heap.size+1,#[.string ⟨#[]⟩,.string ⟨#[]⟩],27),(w.heap.size,#[.int .i64 M,.slice A n c],24)]):=Lib.hid (K0.out.on hb);have B1:Hid (Below w.heap.size w w1):=Lib.hid (below_step B0.out hb);clear hb K0 B0;have ley:w.heap.size≤w1.heap.size:=(by have:=B1.out.size;(try simp only[World.size_alloc] at this);omega);have K2:Hid (EnvF (w1.alloc (.cells #[.string ⟨#[]⟩,.string ⟨#[]⟩] 27)) [fF A n xs] [(w1.heap.size,#[.string ⟨#[]⟩,.string ⟨#[]⟩],27),(w.heap.size+1,#[.string ⟨#[]⟩,.string ⟨#[]⟩],27),(w.heap.size,#[.int .i64 M,.slice A n c],24)]):=Lib.hid (K1.out.boxg 27 #[.string ⟨#[]⟩,.string ⟨#[]⟩] (w1.heap.size) (by simp));have B2:Hid (Below w.heap.size w (w1.alloc (.cells #[.string ⟨#[]⟩,.string ⟨#[]⟩] 27))):=Lib.hid (B1.out.alloc B1.out.size (.cells #[.string ⟨#[]⟩,.string ⟨#[]⟩] 27));clear K1 B1)
   | (refine at_store 27 (.tmp 6) (.tmp 11) (by rfl) ?_;refine wpList_put (by rfl) 27 (.tmp 6) (.tmp 11) (by rfl) (w1.heap.size) 0 (.agg #[.string fd0.1,.string fd0.2]) (by rfl) (by rfl) 27 #[.string ⟨#[]⟩,.string ⟨#[]⟩] #[.string fd0.1,.string fd0.2] (K2.out.row 0 rfl) (by simp[Value.cells]) (by kernel_rfl) infoc_D (by kernel_rfl) ?_;intro w3 hrow hoth hz hbl;have K3:Hid (EnvF w3 [fF A n xs] [(w1.heap.size,#[.string fd0.1,.string fd0.2],27),(w.heap.size+1,#[.string ⟨#[]⟩,.string ⟨#[]⟩],27),(w.heap.size,#[.int .i64 M,.slice A n c],24)]):=Lib.hid (K2.out.turn 0 rfl hrow hoth hz);have B3:Hid (Below w.heap.size w w3):=Lib.hid (hbl _ _ ley B2.out);clear hrow hoth hz hbl K2 B2)
   | (refine at_store 27 (.tmp 4) (.tmp 25) (by rfl) ?_;refine wpList_put (by rfl) 27 (.tmp 4) (.tmp 25) (by rfl) (w.heap.size+1) 0 (.agg #[.string ⟨#[]⟩,.string ⟨#[]⟩]) (by rfl) (by rfl) 27 #[.string ⟨#[]⟩,.string ⟨#[]⟩] #[.string ⟨#[]⟩,.string ⟨#[]⟩] (K3.out.row 1 rfl) (by simp[Value.cells]) (by kernel_rfl) infoc_D (by kernel_rfl) ?_;intro w4 hrow hoth hz hbl;have K4:Hid (EnvF w4 [fF A n xs] [(w1.heap.size,#[.string fd0.1,.string fd0.2],27),(w.heap.size+1,#[.string ⟨#[]⟩,.string ⟨#[]⟩],27),(w.heap.size,#[.int .i64 M,.slice A n c],24)]):=Lib.hid (K3.out.turn 1 rfl hrow hoth hz);have B4:Hid (Below w.heap.size w w4):=Lib.hid (hbl _ _ (by omega) B3.out);clear hrow hoth hz hbl K3 B3))
  exact bodyPost_ret (res_cell_tmp rfl _ _ _ _ _ _ rfl (K4.out.row 1 rfl) Tryz.underlying27 rfl infoc_D) rfl ⟨rfl,B4.out⟩
 by_cases h2:i≤20
 ·obtain⟨k,rfl⟩ : ∃k:Nat,i=(k:Int)+1:=⟨(i-1).toNat,by omega⟩
  obtain⟨x,hx,_⟩:=stat_at k (by omega)
  unfold atV atE
  rw[atO_stat xs k (by omega),hx]
  have hs : ∀w0,Calls Tryz.prog 90 #[.int .i64 ((k:Int)+1)] w0 fun e w'=>e = .returned (.tuple #[.agg #[.string (x).1,.string (x).2],.bool true])∧Below w0.heap.size w0 w':=fun w0=>r_static_yes k x w0 (by omega) hx
  have K0:Hid (EnvF ((w.alloc (.cells #[.int .i64 M,.slice A n c] 24)).alloc (.cells #[.string ⟨#[]⟩,.string ⟨#[]⟩] 27)) [fF A n xs] [(w.heap.size+1,#[.string ⟨#[]⟩,.string ⟨#[]⟩],27),(w.heap.size,#[.int .i64 M,.slice A n c],24)]):=Lib.hid ((((EnvF.nil w).addF hA).boxg 24 #[.int .i64 M,.slice A n c] (w.heap.size) (by simp)).boxg 27 #[.string ⟨#[]⟩,.string ⟨#[]⟩] (w.heap.size+1) (by simp))
  have B0:Hid (Below w.heap.size w ((w.alloc (.cells #[.int .i64 M,.slice A n c] 24)).alloc (.cells #[.string ⟨#[]⟩,.string ⟨#[]⟩] 27))):=Lib.hid (((Below.refl _ w).alloc (by first | exact Nat.le_refl _ | (simp only[World.size_alloc];omega)) (.cells #[.int .i64 M,.slice A n c] 24)).alloc (by first | exact Nat.le_refl _ | (simp only[World.size_alloc];omega)) (.cells #[.string ⟨#[]⟩,.string ⟨#[]⟩] 27))
  go_enter Tryz.func66,Tryz.ntmps66
  go_wp2_with (first
   | go_skip
   | (go_at_call 90;(have hc:=(hs ((w.alloc (.cells #[.int .i64 M,.slice A n c] 24)).alloc (.cells #[.string ⟨#[]⟩,.string ⟨#[]⟩] 27)));(with_reducible refine hc.mono ?_);clear hc);rintro e w1 ⟨rfl,hb⟩;have K1:Hid (EnvF w1 [fF A n xs] [(w.heap.size+1,#[.string ⟨#[]⟩,.string ⟨#[]⟩],27),(w.heap.size,#[.int .i64 M,.slice A n c],24)]):=Lib.hid (K0.out.on hb);have B1:Hid (Below w.heap.size w w1):=Lib.hid (below_step B0.out hb);clear hb K0 B0;have ley:w.heap.size≤w1.heap.size:=(by have:=B1.out.size;(try simp only[World.size_alloc] at this);omega);have K2:Hid (EnvF (w1.alloc (.cells #[.string ⟨#[]⟩,.string ⟨#[]⟩] 27)) [fF A n xs] [(w1.heap.size,#[.string ⟨#[]⟩,.string ⟨#[]⟩],27),(w.heap.size+1,#[.string ⟨#[]⟩,.string ⟨#[]⟩],27),(w.heap.size,#[.int .i64 M,.slice A n c],24)]):=Lib.hid (K1.out.boxg 27 #[.string ⟨#[]⟩,.string ⟨#[]⟩] (w1.heap.size) (by simp));have B2:Hid (Below w.heap.size w (w1.alloc (.cells #[.string ⟨#[]⟩,.string ⟨#[]⟩] 27))):=Lib.hid (B1.out.alloc B1.out.size (.cells #[.string ⟨#[]⟩,.string ⟨#[]⟩] 27));clear K1 B1)
   | (refine at_store 27 (.tmp 6) (.tmp 11) (by rfl) ?_;refine wpList_put (by rfl) 27 (.tmp 6) (.tmp 11) (by rfl) (w1.heap.size) 0 (.agg #[.string x.1,.string x.2]) (by rfl) (by rfl) 27 #[.string ⟨#[]⟩,.string ⟨#[]⟩] #[.string x.1,.string x.2] (K2.out.row 0 rfl) (by simp[Value.cells]) (by kernel_rfl) infoc_D (by kernel_rfl) ?_;intro w3 hrow hoth hz hbl;have K3:Hid (EnvF w3 [fF A n xs] [(w1.heap.size,#[.string x.1,.string x.2],27),(w.heap.size+1,#[.string ⟨#[]⟩,.string ⟨#[]⟩],27),(w.heap.size,#[.int .i64 M,.slice A n c],24)]):=Lib.hid (K2.out.turn 0 rfl hrow hoth hz);have B3:Hid (Below w.heap.size w w3):=Lib.hid (hbl _ _ ley B2.out);clear hrow hoth hz hbl K2 B2)
   | (refine at_load 27 (.tmp 6) (by rfl) ?_;refine wpList_load_row (by rfl) 27 (.tmp 6) (by rfl) (w1.heap.size) (by rfl) 27 #[.string x.1,.string x.2] (0,0) _ (K3.out.row 0 rfl) Tryz.underlying27 (by rfl) infoc_D ?_)
   | (refine at_store 27 (.tmp 4) (.tmp 14) (by rfl) ?_;refine wpList_put (by rfl) 27 (.tmp 4) (.tmp 14) (by rfl) (w.heap.size+1) 0 (.agg #[.string x.1,.string x.2]) (by rfl) (by rfl) 27 #[.string ⟨#[]⟩,.string ⟨#[]⟩] #[.string x.1,.string x.2] (K3.out.row 1 rfl) (by simp[Value.cells]) (by kernel_rfl) infoc_D (by kernel_rfl) ?_;intro w4 hrow hoth hz hbl;have K4:Hid (EnvF w4 [fF A n xs] [(w1.heap.size,#[.string x.1,.string x.2],27),(w.heap.size+1,#[.string x.1,.string x.2],27),(w.heap.size,#[.int .i64 M,.slice A n c],24)]):=Lib.hid (K3.out.turn 1 rfl hrow hoth hz);have B4:Hid (Below w.heap.size w w4):=Lib.hid (hbl _ _ (by omega) B3.out);clear hrow hoth hz hbl K3 B3))
  exact bodyPost_ret (res_cell_tmp rfl _ _ _ _ _ _ rfl (K4.out.row 1 rfl) Tryz.underlying27 rfl infoc_D) rfl ⟨rfl,B4.out⟩
 obtain⟨k,rfl⟩ : ∃k:Nat,i=(k:Int)+21:=⟨(i-21).toNat,by omega⟩
 have d1:decide ((k:Int)+21<21)=false:=decide_eq_false (by omega)
 have hs : ∀w0,Calls Tryz.prog 90 #[.int .i64 ((k:Int)+21)] w0 fun e w'=>e = .returned (.tuple #[.agg #[.string (fd0).1,.string (fd0).2],.bool false])∧Below w0.heap.size w0 w':=fun w0=>r_static_no _ w0 (.inr (by omega))
 by_cases hk:k<n
 ·have hx:xs[k]? = some (xs[k]'(by omega)):=List.getElem?_eq_getElem _
  obtain⟨x,ex⟩ : ∃x,x=xs[k]'(by omega):=⟨_,rfl⟩
  rw[←ex] at hx
  clear ex
  unfold atV atE
  rw[atO_row xs k,hx]
  have d2:decide ((n:Int)≤(k:Int))=false:=decide_eq_false (by omega)
  obtain⟨b,o,rfl,hb2,hcc⟩:=fs_cell hA (by omega)
  obtain⟨x',hx',hc1,hc2⟩:=hcc k hk
  rw[hx] at hx'
  cases hx'
  rw[←Nat.add_assoc] at hc2
  clear hcc
  have K0:Hid (EnvF ((w.alloc (.cells #[.int .i64 M,.slice (some ⟨b,o,none⟩) n c] 24)).alloc (.cells #[.string ⟨#[]⟩,.string ⟨#[]⟩] 27)) [fF (some ⟨b,o,none⟩) n xs] [(w.heap.size+1,#[.string ⟨#[]⟩,.string ⟨#[]⟩],27),(w.heap.size,#[.int .i64 M,.slice (some ⟨b,o,none⟩) n c],24)]):=Lib.hid ((((EnvF.nil w).addF hA).boxg 24 #[.int .i64 M,.slice (some ⟨b,o,none⟩) n c] (w.heap.size) (by simp)).boxg 27 #[.string ⟨#[]⟩,.string ⟨#[]⟩] (w.heap.size+1) (by simp))
  have B0:Hid (Below w.heap.size w ((w.alloc (.cells #[.int .i64 M,.slice (some ⟨b,o,none⟩) n c] 24)).alloc (.cells #[.string ⟨#[]⟩,.string ⟨#[]⟩] 27))):=Lib.hid (((Below.refl _ w).alloc (by first | exact Nat.le_refl _ | (simp only[World.size_alloc];omega)) (.cells #[.int .i64 M,.slice (some ⟨b,o,none⟩) n c] 24)).alloc (by first | exact Nat.le_refl _ | (simp only[World.size_alloc];omega)) (.cells #[.string ⟨#[]⟩,.string ⟨#[]⟩] 27))
  go_enter Tryz.func66,Tryz.ntmps66
  go_wp2_with (first
   | go_skip
   | (go_at_call 90;(have hc:=(hs ((w.alloc (.cells #[.int .i64 M,.slice (some ⟨b,o,none⟩) n c] 24)).alloc (.cells #[.string ⟨#[]⟩,.string ⟨#[]⟩] 27)));(with_reducible refine hc.mono ?_);clear hc);rintro e w1 ⟨rfl,hb⟩;have K1:Hid (EnvF w1 [fF (some ⟨b,o,none⟩) n xs] [(w.heap.size+1,#[.string ⟨#[]⟩,.string ⟨#[]⟩],27),(w.heap.size,#[.int .i64 M,.slice (some ⟨b,o,none⟩) n c],24)]):=Lib.hid (K0.out.on hb);have B1:Hid (Below w.heap.size w w1):=Lib.hid (below_step B0.out hb);clear hb K0 B0;have ley:w.heap.size≤w1.heap.size:=(by have:=B1.out.size;(try simp only[World.size_alloc] at this);omega);have K2:Hid (EnvF (w1.alloc (.cells #[.string ⟨#[]⟩,.string ⟨#[]⟩] 27)) [fF (some ⟨b,o,none⟩) n xs] [(w1.heap.size,#[.string ⟨#[]⟩,.string ⟨#[]⟩],27),(w.heap.size+1,#[.string ⟨#[]⟩,.string ⟨#[]⟩],27),(w.heap.size,#[.int .i64 M,.slice (some ⟨b,o,none⟩) n c],24)]):=Lib.hid (K1.out.boxg 27 #[.string ⟨#[]⟩,.string ⟨#[]⟩] (w1.heap.size) (by simp));have B2:Hid (Below w.heap.size w (w1.alloc (.cells #[.string ⟨#[]⟩,.string ⟨#[]⟩] 27))):=Lib.hid (B1.out.alloc B1.out.size (.cells #[.string ⟨#[]⟩,.string ⟨#[]⟩] 27));clear K1 B1)
   | (refine at_store 27 (.tmp 6) (.tmp 11) (by rfl) ?_;refine wpList_put (by rfl) 27 (.tmp 6) (.tmp 11) (by rfl) (w1.heap.size) 0 (.agg #[.string fd0.1,.string fd0.2]) (by rfl) (by rfl) 27 #[.string ⟨#[]⟩,.string ⟨#[]⟩] #[.string fd0.1,.string fd0.2] (K2.out.row 0 rfl) (by simp[Value.cells]) (by kernel_rfl) infoc_D (by kernel_rfl) ?_;intro w3 hrow hoth hz hbl;have K3:Hid (EnvF w3 [fF (some ⟨b,o,none⟩) n xs] [(w1.heap.size,#[.string fd0.1,.string fd0.2],27),(w.heap.size+1,#[.string ⟨#[]⟩,.string ⟨#[]⟩],27),(w.heap.size,#[.int .i64 M,.slice (some ⟨b,o,none⟩) n c],24)]):=Lib.hid (K2.out.turn 0 rfl hrow hoth hz);have B3:Hid (Below w.heap.size w w3):=Lib.hid (hbl _ _ ley B2.out);clear hrow hoth hz hbl K2 B2;have h1:=(B3.out.cell (p:=⟨b,o+k*2,none⟩) hb2).trans hc1;have h2:=(B3.out.cell (p:=⟨b,o+k*2+1,none⟩) hb2).trans hc2)
   | (refine at_load 22 (.tmp 20) (by rfl) ?_;refine wpListG_get (by kernel_rfl) 22 (.tmp 20) (by rfl) (w.heap.size) 1 (by rfl) 24 #[.int .i64 M,.slice (some ⟨b,o,none⟩) n c] (.slice (some ⟨b,o,none⟩) n c) _ (K3.out.row 2 rfl) (by rfl) Tryz.underlying22 (by rfl) ?_)
   | (refine at_load 22 (.tmp 26) (by rfl) ?_;refine wpList_get (by rfl) 22 (.tmp 26) (by rfl) (w.heap.size) 1 (by rfl) 24 #[.int .i64 M,.slice (some ⟨b,o,none⟩) n c] (.slice (some ⟨b,o,none⟩) n c) _ (K3.out.row 2 rfl) (by rfl) Tryz.underlying22 (by rfl) ?_)
   | (refine at_store 27 (.tmp 4) (.tmp 31) (by rfl) ?_;refine wpList_put (by rfl) 27 (.tmp 4) (.tmp 31) (by rfl) (w.heap.size+1) 0 (.agg #[.string x.1,.string x.2]) (by rfl) (by rfl) 27 #[.string ⟨#[]⟩,.string ⟨#[]⟩] #[.string x.1,.string x.2] (K3.out.row 1 rfl) (by simp[Value.cells]) (by kernel_rfl) infoc_D (by kernel_rfl) ?_;intro w4 hrow hoth hz hbl;have K4:Hid (EnvF w4 [fF (some ⟨b,o,none⟩) n xs] [(w1.heap.size,#[.string fd0.1,.string fd0.2],27),(w.heap.size+1,#[.string x.1,.string x.2],27),(w.heap.size,#[.int .i64 M,.slice (some ⟨b,o,none⟩) n c],24)]):=Lib.hid (K3.out.turn 1 rfl hrow hoth hz);have B4:Hid (Below w.heap.size w w4):=Lib.hid (hbl _ _ (by omega) B3.out);clear hrow hoth hz hbl K3 B3))
  exact bodyPost_ret (res_cell_tmp rfl _ _ _ _ _ _ rfl (K4.out.row 1 rfl) Tryz.underlying27 rfl infoc_D) rfl ⟨rfl,B4.out⟩
 ·unfold atV atE
  rw[atO_row xs k,List.getElem?_eq_none (by omega)]
  have d2:decide ((n:Int)≤(k:Int))=true:=decide_eq_true (by omega)
  have K0:Hid (EnvF ((w.alloc (.cells #[.int .i64 M,.slice A n c] 24)).alloc (.cells #[.string ⟨#[]⟩,.string ⟨#[]⟩] 27)) [fF A n xs] [(w.heap.size+1,#[.string ⟨#[]⟩,.string ⟨#[]⟩],27),(w.heap.size,#[.int .i64 M,.slice A n c],24)]):=Lib.hid ((((EnvF.nil w).addF hA).boxg 24 #[.int .i64 M,.slice A n c] (w.heap.size) (by simp)).boxg 27 #[.string ⟨#[]⟩,.string ⟨#[]⟩] (w.heap.size+1) (by simp))
  have B0:Hid (Below w.heap.size w ((w.alloc (.cells #[.int .i64 M,.slice A n c] 24)).alloc (.cells #[.string ⟨#[]⟩,.string ⟨#[]⟩] 27))):=Lib.hid (((Below.refl _ w).alloc (by first | exact Nat.le_refl _ | (simp only[World.size_alloc];omega)) (.cells #[.int .i64 M,.slice A n c] 24)).alloc (by first | exact Nat.le_refl _ | (simp only[World.size_alloc];omega)) (.cells #[.string ⟨#[]⟩,.string ⟨#[]⟩] 27))
  go_enter Tryz.func66,Tryz.ntmps66
  go_wp2_with (first
   | go_skip
   | (go_at_call 90;(have hc:=(hs ((w.alloc (.cells #[.int .i64 M,.slice A n c] 24)).alloc (.cells #[.string ⟨#[]⟩,.string ⟨#[]⟩] 27)));(with_reducible refine hc.mono ?_);clear hc);rintro e w1 ⟨rfl,hb⟩;have K1:Hid (EnvF w1 [fF A n xs] [(w.heap.size+1,#[.string ⟨#[]⟩,.string ⟨#[]⟩],27),(w.heap.size,#[.int .i64 M,.slice A n c],24)]):=Lib.hid (K0.out.on hb);have B1:Hid (Below w.heap.size w w1):=Lib.hid (below_step B0.out hb);clear hb K0 B0;have ley:w.heap.size≤w1.heap.size:=(by have:=B1.out.size;(try simp only[World.size_alloc] at this);omega);have K2:Hid (EnvF (w1.alloc (.cells #[.string ⟨#[]⟩,.string ⟨#[]⟩] 27)) [fF A n xs] [(w1.heap.size,#[.string ⟨#[]⟩,.string ⟨#[]⟩],27),(w.heap.size+1,#[.string ⟨#[]⟩,.string ⟨#[]⟩],27),(w.heap.size,#[.int .i64 M,.slice A n c],24)]):=Lib.hid (K1.out.boxg 27 #[.string ⟨#[]⟩,.string ⟨#[]⟩] (w1.heap.size) (by simp));have B2:Hid (Below w.heap.size w (w1.alloc (.cells #[.string ⟨#[]⟩,.string ⟨#[]⟩] 27))):=Lib.hid (B1.out.alloc B1.out.size (.cells #[.string ⟨#[]⟩,.string ⟨#[]⟩] 27));clear K1 B1)
   | (refine at_store 27 (.tmp 6) (.tmp 11) (by rfl) ?_;refine wpList_put (by rfl) 27 (.tmp 6) (.tmp 11) (by rfl) (w1.heap.size) 0 (.agg #[.string fd0.1,.string fd0.2]) (by rfl) (by rfl) 27 #[.string ⟨#[]⟩,.string ⟨#[]⟩] #[.string fd0.1,.string fd0.2] (K2.out.row 0 rfl) (by simp[Value.cells]) (by kernel_rfl) infoc_D (by kernel_rfl) ?_;intro w3 hrow hoth hz hbl;have K3:Hid (EnvF w3 [fF A n xs] [(w1.heap.size,#[.string fd0.1,.string fd0.2],27),(w.heap.size+1,#[.string ⟨#[]⟩,.string ⟨#[]⟩],27),(w.heap.size,#[.int .i64 M,.slice A n c],24)]):=Lib.hid (K2.out.turn 0 rfl hrow hoth hz);have B3:Hid (Below w.heap.size w w3):=Lib.hid (hbl _ _ ley B2.out);clear hrow hoth hz hbl K2 B2)
   | (refine at_load 22 (.tmp 20) (by rfl) ?_;refine wpListG_get (by kernel_rfl) 22 (.tmp 20) (by rfl) (w.heap.size) 1 (by rfl) 24 #[.int .i64 M,.slice A n c] (.slice A n c) _ (K3.out.row 2 rfl) (by rfl) Tryz.underlying22 (by rfl) ?_)
   | (refine at_store 27 (.tmp 4) (.tmp 25) (by rfl) ?_;refine wpList_put (by rfl) 27 (.tmp 4) (.tmp 25) (by rfl) (w.heap.size+1) 0 (.agg #[.string ⟨#[]⟩,.string ⟨#[]⟩]) (by rfl) (by rfl) 27 #[.string ⟨#[]⟩,.string ⟨#[]⟩] #[.string ⟨#[]⟩,.string ⟨#[]⟩] (K3.out.row 1 rfl) (by simp[Value.cells]) (by kernel_rfl) infoc_D (by kernel_rfl) ?_;intro w4 hrow hoth hz hbl;have K4:Hid (EnvF w4 [fF A n xs] [(w1.heap.size,#[.string fd0.1,.string fd0.2],27),(w.heap.size+1,#[.string ⟨#[]⟩,.string ⟨#[]⟩],27),(w.heap.size,#[.int .i64 M,.slice A n c],24)]):=Lib.hid (K3.out.turn 1 rfl hrow hoth hz);have B4:Hid (Below w.heap.size w w4):=Lib.hid (hbl _ _ (by omega) B3.out);clear hrow hoth hz hbl K3 B3))
  exact bodyPost_ret (res_cell_tmp rfl _ _ _ _ _ _ rfl (K4.out.row 1 rfl) Tryz.underlying27 rfl infoc_D) rfl ⟨rfl,B4.out⟩
end Go.Proofs.YtahiajeggbpogaaGreatDoor
namespace Go.Proofs.YtahiajeggbpogaaGreatDoor
open Go.ChangeShapes Go.WideShapes Go.ChangeAt Go.WideMaps Go.WideElems Go.RowKit Tb
set_option linter.unusedVariables false
theorem fld_cells{H:Type}{enc:TypeId×Value→H}{W:World}{base:Nat}{spare:Nat→Bool}{held:Bool}{m:Nat}{c0 c1:Value}{x:DataW H×List MemPlace}{a b:List UInt8}
  (h:DataW.trod enc Tryz.prog W base spare held m 27 [c0,c1]=some x) (hx:x.1 = .agg [.lit (.string a),.lit (.string b)]) :
  c0 = .string ⟨a.toArray⟩∧c1 = .string ⟨b.toArray⟩:=by
 obtain⟨ys,n,_,rfl,hl,hlen,hf⟩:=DataW.trod_struct Tryz.underlying27 h
 have h0:=hf 0 _ rfl
 have h1:=hf 1 _ rfl
 match ys,hlen with
 | [y0,y1],_=>
  simp only[List.map_cons,List.map_nil,DataW.agg.injEq,List.cons.injEq,and_true] at hx
  replace h0:DataW.trod _ Tryz.prog W _ _ _ n 9 [c0]=some y0:=h0
  replace h1:DataW.trod _ Tryz.prog W _ _ _ n 9 [c1]=some y1:=h1
  obtain⟨s0,e0,r0,_⟩:=DataW.trod_string Tryz.underlying9 h0
  obtain⟨s1,e1,r1,_⟩:=DataW.trod_string Tryz.underlying9 h1
  subst r0
  subst r1
  simp only[DataW.lit.injEq,Lit.string.injEq] at hx
  obtain⟨rfl,rfl⟩:=hx
  simp only[List.cons.injEq,and_true] at e0 e1
  exact⟨e0,e1⟩
end Go.Proofs.YtahiajeggbpogaaGreatDoor
