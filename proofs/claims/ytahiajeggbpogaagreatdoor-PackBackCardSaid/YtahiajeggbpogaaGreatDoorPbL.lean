import Derived.Test.YtahiajeggbpogaaGreatDoorPbX
import Derived.Test.YtahiajeggbpogaaGreatDoorUpOj
import Derived.Test.YtahiajeggbpogaaGreatDoorPkZ
set_option maxRecDepth 100000
set_option maxHeartbeats 4000000
namespace Go.Proofs.YtahiajeggbpogaaGreatDoor
open Go.RowKit Go.Shelf Px Tx Tb Up Pk
set_option linter.unusedVariables false
set_option linter.unusedSimpArgs false
attribute [local go_sem] Oper.semAt_some
namespace Pk
theorem cell_at{w:World}{B ln b o j:Nat}{ls:List Fd}{x:Fd}(h:Fs w B (some ⟨b,o,none⟩) ln ls)(hx:ls[j]? = some x):w.cell? ⟨b,o+j*2,none⟩=some (.string x.1)∧w.cell? ⟨b,o+j*2+1,none⟩=some (.string x.2):=by
 have hj:j<ln:=by rw[←h.1];exact(List.getElem?_eq_some_iff.1 hx).1
 obtain⟨b',o',e,_,hc⟩:=h.2 (by omega)
 cases e
 have h1:=hc j hj
 rw[hx] at h1
 exact h1
theorem env_first{w:World}{fs:List Fact}{gs:List Bx}{LA:Option Addr}{ln k:Nat}{ls:List Fd}(h:EnvF w fs gs)(hL:fF LA ln ls∈fs)(hk:k≤ln):EnvF w (fF LA k (ls.take k)::fs) gs:=by
 have hs:=h.fs hL
 refine h.fact (x:=fF LA k (ls.take k)) ⟨by rw[List.length_take,hs.1];omega,fun h0=>?_⟩ (fun j ⟨h0,o,e⟩=>(h.f _ hL).2 j ⟨by omega,o,e⟩)
 obtain⟨b,o,e,hb,hc⟩:=hs.2 (by omega)
 refine⟨b,o,e,hb,fun j hj=>?_⟩
 rw[List.getElem?_take_of_lt hj]
 exact hc j (by omega)
end Pk
theorem d_size{x:Fd}{s:Nat}(w:World)(h:sz x≤4000000000000000000)(hs:sz x=s) :
  Calls Tryz.prog 37 #[.agg #[.string x.1,.string x.2]] w fun e w'=>e = .returned (.int .i64 (s:Int))∧Below w.heap.size w w':=by
 subst hs
 exact r_size x w h
theorem pb_g(M most:Int)(A:Option Addr)(n c:Nat)(xs:List Fd)(LA:Option Addr)(ln lc:Nat)(ls:List Fd)(w:World)(hV:EnvF w [fF LA ln ls,fF A n xs,stF,rwF,mvF] [])(HG:Hid (∀w0:World,Fs w0 w0.heap.size A n xs→Fs w0 w0.heap.size LA ln ls→Calls Tryz.prog 23 #[.agg #[.int .i64 M,.slice A n c],.slice LA ln lc] w0 fun e w'=>e = .returned (.bool true)∧Below w0.heap.size w0 w')) :
  Calls Tryz.prog 5 #[.agg #[.int .i64 M,.slice A n c],.slice LA ln lc,.int .i64 most] w fun e w'=>e = .returned (.bool true)∧Below w.heap.size w w':=by
 have K0:=Lib.hid ((hV).boxg 24 #[.int .i64 M,.slice A n c] w.heap.size (by simp))
 have G0:=Lib.hid ((Below.refl w.heap.size w).alloc (by simp) (.cells #[.int .i64 M,.slice A n c] 24))
 clear hV
 go_enter Tryz.func5,Tryz.ntmps5
 go_wp2_with (first
  | go_skip
  | (refine at_load 24 (.tmp 3) (by rfl) ?_;refine wpListG_row (by rfl) 24 (.tmp 3) (by rfl) w.heap.size (by rfl) 24 #[.int .i64 M,.slice A n c] _ (K0.out.row 0 rfl) Tryz.underlying24 (by rfl) infoc_T ?_)
  | (go_at_call 23;(with_reducible refine(HG.out _ (K0.out.fs (A:=A) (n:=n) (xs:=xs) (by simp)) (K0.out.fs (A:=LA) (n:=ln) (xs:=ls) (by simp))).mono ?_);rintro e w1 ⟨rfl,hb⟩;have K1:=Lib.hid (K0.out.on hb);have G1:=Lib.hid (below_step G0.out hb);clear hb K0 G0)
  | (go_at_call 25;(with_reducible refine(wakes11 _ K1.out (by simp) (by simp) (by simp)).mono ?_);rintro e w2 ⟨rfl,hb⟩;have K2:=Lib.hid (K1.out.on hb);have G2:=Lib.hid (below_step G1.out hb);clear hb K1 G1))
 go_ret
 exact⟨rfl,G2.out⟩
theorem pb_r(M most:Int)(A:Option Addr)(n c:Nat)(xs:List Fd)(LA:Option Addr)(ln lc:Nat)(ls:List Fd)(w:World)(hV:EnvF w [fF LA ln ls,fF A n xs,stF,rwF,mvF] [])(HG:Hid (∀w0:World,Fs w0 w0.heap.size A n xs→Fs w0 w0.heap.size LA ln ls→Calls Tryz.prog 23 #[.agg #[.int .i64 M,.slice A n c],.slice LA ln lc] w0 fun e w'=>e = .returned (.bool false)∧Below w0.heap.size w0 w'))(HRT:Hid (∀w0:World,Fs w0 w0.heap.size A n xs→Calls Tryz.prog 36 #[.agg #[.int .i64 M,.slice A n c]] w0 fun e w'=>e = .returned (.bool false)∧Below w0.heap.size w0 w')) :
  Calls Tryz.prog 5 #[.agg #[.int .i64 M,.slice A n c],.slice LA ln lc,.int .i64 most] w fun e w'=>e = .returned (.bool true)∧Below w.heap.size w w':=by
 have K0:=Lib.hid ((hV).boxg 24 #[.int .i64 M,.slice A n c] w.heap.size (by simp))
 have G0:=Lib.hid ((Below.refl w.heap.size w).alloc (by simp) (.cells #[.int .i64 M,.slice A n c] 24))
 clear hV
 go_enter Tryz.func5,Tryz.ntmps5
 go_wp2_with (first
  | go_skip
  | (refine at_load 24 (.tmp 3) (by rfl) ?_;refine wpListG_row (by rfl) 24 (.tmp 3) (by rfl) w.heap.size (by rfl) 24 #[.int .i64 M,.slice A n c] _ (K0.out.row 0 rfl) Tryz.underlying24 (by rfl) infoc_T ?_)
  | (go_at_call 23;(with_reducible refine(HG.out _ (K0.out.fs (A:=A) (n:=n) (xs:=xs) (by simp)) (K0.out.fs (A:=LA) (n:=ln) (xs:=ls) (by simp))).mono ?_);rintro e w1 ⟨rfl,hb⟩;have K1:=Lib.hid (K0.out.on hb);have G1:=Lib.hid (below_step G0.out hb);clear hb K0 G0)
  | (refine at_load 24 (.tmp 3) (by rfl) ?_;refine wpListG_row (by rfl) 24 (.tmp 3) (by rfl) w.heap.size (by rfl) 24 #[.int .i64 M,.slice A n c] _ (K1.out.row 0 rfl) Tryz.underlying24 (by rfl) infoc_T ?_)
  | (go_at_call 36;(with_reducible refine(HRT.out _ (K1.out.fs (A:=A) (n:=n) (xs:=xs) (by simp))).mono ?_);rintro e w2 ⟨rfl,hb⟩;have K2:=Lib.hid (K1.out.on hb);have G2:=Lib.hid (below_step G1.out hb);clear hb K1 G1)
  | (go_at_call 25;(with_reducible refine(wakes11 _ K2.out (by simp) (by simp) (by simp)).mono ?_);rintro e w3 ⟨rfl,hb⟩;have K3:=Lib.hid (K2.out.on hb);have G3:=Lib.hid (below_step G2.out hb);clear hb K2 G2))
 go_ret
 exact⟨rfl,G3.out⟩
theorem pb_main(M most:Int)(A:Option Addr)(n c:Nat)(xs:List Fd)(LA:Option Addr)(ln lc:Nat)(ls:List Fd)(w:World)(hV:EnvF w [fF LA ln ls,fF A n xs,stF,rwF,mvF] [])(HG:Hid (∀w0:World,Fs w0 w0.heap.size A n xs→Fs w0 w0.heap.size LA ln ls→Calls Tryz.prog 23 #[.agg #[.int .i64 M,.slice A n c],.slice LA ln lc] w0 fun e w'=>e = .returned (.bool false)∧Below w0.heap.size w0 w'))(HRT:Hid (∀w0:World,Fs w0 w0.heap.size A n xs→Calls Tryz.prog 36 #[.agg #[.int .i64 M,.slice A n c]] w0 fun e w'=>e = .returned (.bool true)∧Below w0.heap.size w0 w')){k1 q1 k2 q2 kf:Nat}{G:Bool}{L1 L2:List UInt8}{Y1 Y2:List Fd}(HN:Hid (A=none→c=0))(HF:Hid (full xs≤10000))(hr:Hid (rightB M xs=true))(hz:Hid (full ls≤7000))(hB1:Hid (kB M xs ls=L1))(hY1:Hid (kX M xs ls=Y1))(hk1:Hid (L1.length=k1))(hq1:Hid (Y1.length=q1))(hb1:Hid (k1≤7900∧q1≤1000000))(HV1:Hid (BK M 4096 xs L1 0 kf (ls.take kf) G M q1 Y1))(Hkf:Hid (kf≤ln∧kf=fit 2000 ls))(Hln:Hid (ls.length=ln))(Hlc:Hid (ln≤lc∧lc≤maxLen))(HV2:Hid (0≤most→most≤4096→BK M most xs L2 0 kf (ls.take kf) G most q2 Y2))(hB2:Hid (putL most (5:Nat) 32++kB most (keep most xs) ls=L2))(hY2:Hid (kX most (keep most xs) ls=Y2))(hk2:Hid (L2.length=k2))(hq2:Hid (Y2.length=q2))(hb2:Hid (k2≤7900∧(0≤most→most≤4096→q2≤1000000)))(Hlong:Hid (decide ((kf:Int)<(ln:Int))=G)) :
  Calls Tryz.prog 5 #[.agg #[.int .i64 M,.slice A n c],.slice LA ln lc,.int .i64 most] w fun e w'=>e = .returned (.bool true)∧Below w.heap.size w w':=by
 have K0:=Lib.hid ((hV).boxg 24 #[.int .i64 M,.slice A n c] w.heap.size (by simp))
 have G0:=Lib.hid ((Below.refl w.heap.size w).alloc (by simp) (.cells #[.int .i64 M,.slice A n c] 24))
 clear hV
 go_enter Tryz.func5,Tryz.ntmps5
 go_wp2_with (first
  | go_skip
  | (refine at_load 24 (.tmp 3) (by rfl) ?_;refine wpListG_row (by rfl) 24 (.tmp 3) (by rfl) w.heap.size (by rfl) 24 #[.int .i64 M,.slice A n c] _ (K0.out.row 0 rfl) Tryz.underlying24 (by rfl) infoc_T ?_)
  | (go_at_call 23;(with_reducible refine(HG.out _ (K0.out.fs (A:=A) (n:=n) (xs:=xs) (by simp)) (K0.out.fs (A:=LA) (n:=ln) (xs:=ls) (by simp))).mono ?_);rintro e w1 ⟨rfl,hb⟩;have K1:=Lib.hid (K0.out.on hb);have G1:=Lib.hid (below_step G0.out hb);clear hb K0 G0)
  | (refine at_load 24 (.tmp 3) (by rfl) ?_;refine wpListG_row (by rfl) 24 (.tmp 3) (by rfl) w.heap.size (by rfl) 24 #[.int .i64 M,.slice A n c] _ (K1.out.row 0 rfl) Tryz.underlying24 (by rfl) infoc_T ?_)
  | (go_at_call 36;(with_reducible refine(HRT.out _ (K1.out.fs (A:=A) (n:=n) (xs:=xs) (by simp))).mono ?_);rintro e w2 ⟨rfl,hb⟩;have K2:=Lib.hid (K1.out.on hb);have G2:=Lib.hid (below_step G1.out hb);clear hb K1 G1)
  | (refine at_load 24 (.tmp 3) (by rfl) ?_;refine wpListG_row (by rfl) 24 (.tmp 3) (by rfl) w.heap.size (by rfl) 24 #[.int .i64 M,.slice A n c] _ (K2.out.row 0 rfl) Tryz.underlying24 (by rfl) infoc_T ?_)
  | (go_at_call 30;(with_reducible refine(p_Block (A:=A) (n:=n) (c:=c) (xs:=xs) (ls:=ls) LA ln lc _ K2.out (by simp) HN.out (by simp) (by simp) (by simp) (by simp) hr.out hz.out hB1.out hY1.out hk1.out hq1.out).mono ?_);rintro e w3 ⟨A1,c1,A2,c2,rfl,hb,hE,HA10⟩;have K3:=Lib.hid hE;have HA1:=Lib.hid HA10;have G3:=Lib.hid (below_step G2.out hb);clear hb hE HA10 K2 G2;have K3b:=Lib.hid (K3.out.boxg 24 #[.int .i64 0,.slice none 0 0] w3.heap.size rfl);have hz3:w.heap.size≤w3.heap.size:=G3.out.size;have G3b:=Lib.hid (G3.out.alloc hz3 (.cells #[.int .i64 0,.slice none 0 0] 24));clear K3 G3)
  | (refine at_store 24 (.tmp 8) (.tmp 28) (by rfl) ?_;refine wpList_put (by rfl) 24 (.tmp 8) (.tmp 28) (by rfl) w3.heap.size 0 (.agg #[.int .i64 M,.slice A2 q1 c2]) (by rfl) (by rfl) 24 #[.int .i64 0,.slice none 0 0] #[.int .i64 M,.slice A2 q1 c2] (K3b.out.row 0 rfl) (by simp[Value.cells]) (by kernel_rfl) infoc_T (by kernel_rfl) ?_;intro w4 hrow hoth hz hbl;have K4:=Lib.hid (K3b.out.turn 0 rfl hrow hoth hz);have G4:=Lib.hid (hbl _ _ (by omega) G3b.out);clear hrow hoth hz hbl K3b G3b)
  | (refine at_load 24 (.tmp 3) (by rfl) ?_;refine wpListG_row (by rfl) 24 (.tmp 3) (by rfl) w.heap.size (by rfl) 24 #[.int .i64 M,.slice A n c] _ (K4.out.row 1 rfl) Tryz.underlying24 (by rfl) infoc_T ?_)
  | (go_at_call 9;(with_reducible refine(d_call (A:=A) (n:=n) (c:=c) (LA:=A1) (ln:=k1) (lc:=c1) _ HV1.out K4.out (by simp) HA1.out.1.2 (by simp) HN.out (by have:=HF.out;omega) (by have:=hb1.out;omega)).mono ?_);rintro e w5 ⟨C1,cl1,D1,dc1,rfl,hb,hE,hc0,HD10⟩;have K5:=Lib.hid hE;have HD1:=Lib.hid HD10;have G5:=Lib.hid (below_step G4.out hb);clear hb hE hc0 HD10 K4 G4;have K5b:=Lib.hid (K5.out.boxg 31 #[.slice none 0 0,.bool false,.int .i64 0,.slice none 0 0] w5.heap.size rfl);have hz5:w.heap.size≤w5.heap.size:=G5.out.size;have G5b:=Lib.hid (G5.out.alloc hz5 (.cells #[.slice none 0 0,.bool false,.int .i64 0,.slice none 0 0] 31));clear K5 G5)
  | (refine at_store 31 (.tmp 10) (.tmp 34) (by rfl) ?_;refine wpList_put (by rfl) 31 (.tmp 10) (.tmp 34) (by rfl) w5.heap.size 0 (.agg #[.slice C1 kf cl1,.bool G,.int .i64 M,.slice D1 q1 dc1]) (by rfl) (by rfl) 31 #[.slice none 0 0,.bool false,.int .i64 0,.slice none 0 0] #[.slice C1 kf cl1,.bool G,.int .i64 M,.slice D1 q1 dc1] (K5b.out.row 0 rfl) (by simp[Value.cells]) (by kernel_rfl) infoc_U (by kernel_rfl) ?_;intro w6 hrow hoth hz hbl;have K6:=Lib.hid (K5b.out.turn 0 rfl hrow hoth hz);have G6:=Lib.hid (hbl _ _ (by omega) G5b.out);clear hrow hoth hz hbl K5b G5b))
 have hgy:w.heap.size≤w5.heap.size:=by omega
 have hgt:w.heap.size≤w3.heap.size:=by omega
 have HGY:=Lib.hid (And.intro hgy hgt)
 clear hgy hgt
 go_loopw [12,13] (fun u v wr=>∃j:Nat,j≤kf∧u = .int .i64 (full (ls.take j):Int)∧v = .int .i64 (j:Int)∧EnvF wr [fF C1 kf (ls.take kf),fF D1 q1 Y1,fF A2 q1 Y1,fF LA ln ls,fF A n xs,stF,rwF,mvF] [(w5.heap.size,#[.slice C1 kf cl1,.bool G,.int .i64 M,.slice D1 q1 dc1],31),(w3.heap.size,#[.int .i64 M,.slice A2 q1 c2],24),(w.heap.size,#[.int .i64 M,.slice A n c],24)]∧Below w.heap.size w wr) (fun _ v _=>ln-(intOf v).toNat)
 case atStart=>exact⟨0,Nat.zero_le _,rfl,rfl,K6.out.sub (fun y hy=>by simp only[List.mem_cons,List.not_mem_nil,or_false] at hy ⊢;rcases hy with rfl | rfl | rfl | rfl | rfl | rfl | rfl | rfl<;>simp) (List.Sublist.refl _),G6.out⟩
 case round=>
  obtain⟨j,hj,rfl,rfl,hk0,hbel⟩:=hrel
  have KR:=Lib.hid hk0
  have GR:=Lib.hid hbel
  have hkl:=Hkf.out.1
  have hls:=Hln.out
  have hzz:=hz.out
  have hfl:=full_len ls
  clear hk0 hbel K6 G6
  by_cases hc:j<kf
  ·have hlt:j<ln:=by omega
   obtain⟨b,o,hAe,hb,hcc⟩:=fs_cell (KR.out.fs (A:=LA) (n:=ln) (xs:=ls) (by simp)) (by omega)
   subst hAe
   obtain⟨⟨fa,fb⟩,hx,h1,h2⟩:=hcc j hlt
   rw[←Nat.add_assoc] at h2
   have hs1:=full_take_succ hx
   have hs2:=full_take ls (j+1)
   have hft:=(Pk.fit_more (ls:=ls) (j:=j) (by omega)).2 (by have:=Hkf.out.2;omega)
   obtain⟨s,hs⟩ : ∃s,sz ((fa,fb):Fd)=s:=⟨_,rfl⟩
   rw[hs] at hs1
   have dd0:decide ((j:Int)<(ln:Int))=true:=decide_eq_true (by omega)
   have dd1:decide ((full (ls.take j):Int)+(s:Int)≤2000)=true:=decide_eq_true (by omega)
   have HS1:=Lib.hid hs1
   have hX:=Lib.hid hx
   have HSS:=Lib.hid hs
   clear hcc hft hs hx
   go_wp2_with (first
    | go_skip
    | (go_at_call 37;(with_reducible refine(d_size (x:=(fa,fb)) _ (by have:=HSS.out;omega) HSS.out).mono ?_);rintro e w21 ⟨rfl,hb2⟩;have K21:=Lib.hid (KR.out.on hb2);have B21:=Lib.hid (below_step GR.out hb2);have hh:=Pk.cell_at (K21.out.fs (A:=some ⟨b,o,none⟩) (n:=ln) (xs:=ls) (by simp)) hX.out;have h3:=hh.1;have h4:=hh.2;clear hb2 h1 h2 hh KR GR)
    | (go_at_call 37;(with_reducible refine(d_size (x:=(fa,fb)) _ (by have:=HSS.out;omega) HSS.out).mono ?_);rintro e w22 ⟨rfl,hb2⟩;have K22:=Lib.hid (K21.out.on hb2);have B22:=Lib.hid (below_step B21.out hb2);clear hb2 h3 h4 K21 B21))
   go_roundw
   case rel=>exact⟨j+1,by omega,by rw[HS1.out];go_num,by go_num,K22.out,B22.out⟩
   case measure=>simp[intOf];omega
  ·obtain rfl:kf=j:=by omega
   by_cases hlt:kf<ln
   obtain⟨b,o,hAe,hb,hcc⟩:=fs_cell (KR.out.fs (A:=LA) (n:=ln) (xs:=ls) (by simp)) (by omega)
   subst hAe
   obtain⟨⟨fa,fb⟩,hx,h1,h2⟩:=hcc kf hlt
   rw[←Nat.add_assoc] at h2
   have hs1:=full_take_succ hx
   have hs2:=full_take ls (kf+1)
   have hft : ¬(full (ls.take (kf+1)):Int)≤2000:=fun h=>by have:=(Pk.fit_more (ls:=ls) (j:=kf) (by omega)).1 h;have:=Hkf.out.2;omega
   obtain⟨s,hs⟩ : ∃s,sz ((fa,fb):Fd)=s:=⟨_,rfl⟩
   rw[hs] at hs1
   have dd0:decide ((kf:Int)<(ln:Int))=true:=decide_eq_true (by omega)
   have dd1:decide ((full (ls.take kf):Int)+(s:Int)≤2000)=false:=decide_eq_false (by omega)
   have HSS:=Lib.hid hs
   clear hcc hft hs hx
   go_wp2_with (first
    | go_skip
    | (go_at_call 37;(with_reducible refine(d_size (x:=(fa,fb)) _ (by have:=HSS.out;omega) HSS.out).mono ?_);rintro e w21 ⟨rfl,hb2⟩;have K21:=Lib.hid (KR.out.on hb2);have G21:=Lib.hid (below_step GR.out hb2);clear hb2 h1 h2 KR GR))
   clear hs1 hs2 dd0 dd1 HSS
   have hGv:G=true:=by rw[←Hlong.out];exact decide_eq_true (by omega)
   rotate_left
   have dd0:decide ((kf:Int)<(ln:Int))=false:=decide_eq_false (by omega)
   go_wp2
   obtain⟨w21,hw⟩ : ∃x,x=wr:=⟨wr,rfl⟩
   subst hw
   have K21:=Lib.hid KR.out
   have G21:=Lib.hid GR.out
   clear KR GR dd0
   have hGv:G=false:=by rw[←Hlong.out];exact decide_eq_false (by omega)
   all_goals
    have hk1':(0:Int)≤(kf:Int):=by omega
    have hk2':(kf:Int)≤(ln:Int):=by omega
    have hk3':(kf:Int)≤(lc:Int):=by have:=Hlc.out;omega
    have hk4':kf≤lc:=by have:=Hlc.out;omega
    have SH0:Hid ((w21.cell? ⟨w5.heap.size,0,none⟩=some (.slice C1 kf cl1)∧w21.cell? ⟨w5.heap.size,1,none⟩=some (.bool G)∧w21.cell? ⟨w5.heap.size,2,none⟩=some (.int .i64 M)∧w21.cell? ⟨w5.heap.size,3,none⟩=some (.slice D1 q1 dc1))∧(w21.cell? ⟨w3.heap.size,0,none⟩=some (.int .i64 M)∧w21.cell? ⟨w3.heap.size,1,none⟩=some (.slice A2 q1 c2))):=Lib.hid ⟨cells4_row (K21.out.row 0 rfl),cells2_row (K21.out.row 1 rfl)⟩
    have SH:Hid ((w21.drew.cell? ⟨w5.heap.size,0,none⟩=some (.slice C1 kf cl1)∧w21.drew.cell? ⟨w5.heap.size,1,none⟩=some (.bool G)∧w21.drew.cell? ⟨w5.heap.size,2,none⟩=some (.int .i64 M)∧w21.drew.cell? ⟨w5.heap.size,3,none⟩=some (.slice D1 q1 dc1))∧(w21.drew.cell? ⟨w3.heap.size,0,none⟩=some (.int .i64 M)∧w21.drew.cell? ⟨w3.heap.size,1,none⟩=some (.slice A2 q1 c2))):=SH0
    have HC:=Lib.hid (Pk.env_first (k:=kf) K21.out.drew (ln:=ln) (ls:=ls) (List.mem_of_getElem? (i:=3) rfl) hkl)
    have BL:=Lib.hid G21.out.drew
    clear K21 G21
    go_region_held3 (fun W'=>(W'.cell? ⟨w5.heap.size,0,none⟩=some (.slice C1 kf cl1)∧W'.cell? ⟨w5.heap.size,1,none⟩=some (.bool G)∧W'.cell? ⟨w5.heap.size,2,none⟩=some (.int .i64 M)∧W'.cell? ⟨w5.heap.size,3,none⟩=some (.slice D1 q1 dc1))∧(W'.cell? ⟨w3.heap.size,0,none⟩=some (.int .i64 M)∧W'.cell? ⟨w3.heap.size,1,none⟩=some (.slice A2 q1 c2))) (first | with_reducible exact SH.out | with_reducible exact SH0.out)
     (first
      | (go_at_call 38;(with_reducible refine(p_fields (A:=C1) (n:=kf) (n':=kf) (xs:=ls.take kf) (ys:=ls.take kf) (b:=true) _ HC.out (by simp) (by simp) (by omega) (decide_eq_true rfl)).mono ?_);rintro e1 w99 ⟨rfl,hb⟩;replace BL:=Lib.hid (below_step BL.out hb);replace HC:=Lib.hid (HC.out.on hb);replace SH:Hid ((w99.cell? ⟨w5.heap.size,0,none⟩=some (.slice C1 kf cl1)∧w99.cell? ⟨w5.heap.size,1,none⟩=some (.bool G)∧w99.cell? ⟨w5.heap.size,2,none⟩=some (.int .i64 M)∧w99.cell? ⟨w5.heap.size,3,none⟩=some (.slice D1 q1 dc1))∧(w99.cell? ⟨w3.heap.size,0,none⟩=some (.int .i64 M)∧w99.cell? ⟨w3.heap.size,1,none⟩=some (.slice A2 q1 c2))):=Lib.hid ⟨cells4_row (HC.out.row 0 rfl),cells2_row (HC.out.row 1 rfl)⟩;clear hb)
      | (go_at_call 29;(with_reducible refine(p_tsame (A:=D1) (A':=A2) (n:=q1) (n':=q1) (xs:=Y1) (ys:=Y1) (b:=true) _ HC.out (by simp) (by simp) hb1.out.2 (by unfold sameB;simp)).mono ?_);rintro e1 w99 ⟨rfl,hb⟩;replace BL:=Lib.hid (below_step BL.out hb);replace HC:=Lib.hid (HC.out.on hb);replace SH:Hid ((w99.cell? ⟨w5.heap.size,0,none⟩=some (.slice C1 kf cl1)∧w99.cell? ⟨w5.heap.size,1,none⟩=some (.bool G)∧w99.cell? ⟨w5.heap.size,2,none⟩=some (.int .i64 M)∧w99.cell? ⟨w5.heap.size,3,none⟩=some (.slice D1 q1 dc1))∧(w99.cell? ⟨w3.heap.size,0,none⟩=some (.int .i64 M)∧w99.cell? ⟨w3.heap.size,1,none⟩=some (.slice A2 q1 c2))):=Lib.hid ⟨cells4_row (HC.out.row 0 rfl),cells2_row (HC.out.row 1 rfl)⟩;clear hb))
    have HGv:=Lib.hid hGv
    clear SH SH0 hGv
    have hgy:=HGY.out.1
    have hgt:=HGY.out.2
    by_cases hm0:most<0
    ·have dm0:decide (most<0)=true:=decide_eq_true hm0
     go_wp2_with (first
      | go_skip
      | (go_at_call 25;(with_reducible refine(wakes11 _ HC.out (by simp) (by simp) (by simp)).mono ?_);rintro e w41 ⟨rfl,hb⟩;have K41:=Lib.hid (HC.out.on hb);have G41:=Lib.hid (below_step BL.out hb);clear hb HC BL))
     go_ret
     exact⟨rfl,G41.out⟩
    by_cases hm1:4096<most
    ·have dm0:decide (most<0)=false:=decide_eq_false hm0
     have dm1:decide (4096<most)=true:=decide_eq_true hm1
     go_wp2_with (first
      | go_skip
      | (go_at_call 25;(with_reducible refine(wakes11 _ HC.out (by simp) (by simp) (by simp)).mono ?_);rintro e w41 ⟨rfl,hb⟩;have K41:=Lib.hid (HC.out.on hb);have G41:=Lib.hid (below_step BL.out hb);clear hb HC BL))
     go_ret
     exact⟨rfl,G41.out⟩
    have h0:0≤most:=by omega
    have h1:most≤4096:=by omega
    have dm0:decide (most<0)=false:=decide_eq_false hm0
    have dm1:decide (4096<most)=false:=decide_eq_false hm1
    go_wp2_with (first
     | go_skip
     | (refine at_load 24 (.tmp 3) (by rfl) ?_;refine wpListG_row (by rfl) 24 (.tmp 3) (by rfl) w.heap.size (by rfl) 24 #[.int .i64 M,.slice A n c] _ (HC.out.row 2 rfl) Tryz.underlying24 (by rfl) infoc_T ?_)
     | (go_at_call 32;(with_reducible refine(p_Sized (A:=A) (n:=n) (c:=c) (xs:=xs) (ls:=ls) _ _ _ _ HC.out (by simp) HN.out (by simp) (by simp) (by simp) (by simp) hr.out h0 h1 hz.out hB2.out hY2.out hk2.out hq2.out).mono ?_);rintro e w51 ⟨A3,c3,A4,c4,rfl,hb,hE,HA30⟩;have K51:=Lib.hid hE;have HA3:=Lib.hid HA30;have G51:=Lib.hid (below_step BL.out hb);clear hb hE HA30 HC BL)
     | (refine at_store 24 (.tmp 8) (.tmp 103) (by rfl) ?_;refine wpList_put (by rfl) 24 (.tmp 8) (.tmp 103) (by rfl) w3.heap.size 0 (.agg #[.int .i64 most,.slice A4 q2 c4]) (by rfl) (by rfl) 24 #[.int .i64 M,.slice A2 q1 c2] #[.int .i64 most,.slice A4 q2 c4] (K51.out.row 1 rfl) (by simp[Value.cells]) (by kernel_rfl) infoc_T (by kernel_rfl) ?_;intro w52 hrow hoth hz hbl;have K52:=Lib.hid (K51.out.turn 1 rfl hrow hoth hz);have G52:=Lib.hid (hbl _ _ (by omega) G51.out);clear hrow hoth hz hbl K51 G51)
     | (refine at_load 24 (.tmp 3) (by rfl) ?_;refine wpListG_row (by rfl) 24 (.tmp 3) (by rfl) w.heap.size (by rfl) 24 #[.int .i64 M,.slice A n c] _ (K52.out.row 2 rfl) Tryz.underlying24 (by rfl) infoc_T ?_)
     | (go_at_call 9;(with_reducible refine(d_call (A:=A) (n:=n) (c:=c) (LA:=A3) (ln:=k2) (lc:=c3) _ (HV2.out h0 h1) K52.out (by simp) HA3.out.1.2 (by simp) HN.out (by have:=HF.out;omega) (by have:=hb2.out.1;omega)).mono ?_);rintro e w53 ⟨C2,cl2,D2,dc2,rfl,hb,hE,hc0,HD20⟩;have K53:=Lib.hid hE;have HD2:=Lib.hid HD20;have G53:=Lib.hid (below_step G52.out hb);clear hb hE hc0 HD20 K52 G52)
     | (refine at_store 31 (.tmp 10) (.tmp 110) (by rfl) ?_;refine wpList_put (by rfl) 31 (.tmp 10) (.tmp 110) (by rfl) w5.heap.size 0 (.agg #[.slice C2 kf cl2,.bool G,.int .i64 most,.slice D2 q2 dc2]) (by rfl) (by rfl) 31 #[.slice C1 kf cl1,.bool G,.int .i64 M,.slice D1 q1 dc1] #[.slice C2 kf cl2,.bool G,.int .i64 most,.slice D2 q2 dc2] (K53.out.row 0 rfl) (by simp[Value.cells]) (by kernel_rfl) infoc_U (by kernel_rfl) ?_;intro w54 hrow hoth hz hbl;have K54:=Lib.hid (K53.out.turn 0 rfl hrow hoth hz);have G54:=Lib.hid (hbl _ _ (by omega) G53.out);clear hrow hoth hz hbl K53 G53))
    have SH0:Hid ((w54.cell? ⟨w5.heap.size,0,none⟩=some (.slice C2 kf cl2)∧w54.cell? ⟨w5.heap.size,1,none⟩=some (.bool G)∧w54.cell? ⟨w5.heap.size,2,none⟩=some (.int .i64 most)∧w54.cell? ⟨w5.heap.size,3,none⟩=some (.slice D2 q2 dc2))∧(w54.cell? ⟨w3.heap.size,0,none⟩=some (.int .i64 most)∧w54.cell? ⟨w3.heap.size,1,none⟩=some (.slice A4 q2 c4))):=Lib.hid ⟨cells4_row (K54.out.row 0 rfl),cells2_row (K54.out.row 1 rfl)⟩
    have SH:Hid ((w54.drew.cell? ⟨w5.heap.size,0,none⟩=some (.slice C2 kf cl2)∧w54.drew.cell? ⟨w5.heap.size,1,none⟩=some (.bool G)∧w54.drew.cell? ⟨w5.heap.size,2,none⟩=some (.int .i64 most)∧w54.drew.cell? ⟨w5.heap.size,3,none⟩=some (.slice D2 q2 dc2))∧(w54.drew.cell? ⟨w3.heap.size,0,none⟩=some (.int .i64 most)∧w54.drew.cell? ⟨w3.heap.size,1,none⟩=some (.slice A4 q2 c4))):=SH0
    have HC:=Lib.hid K54.out.drew
    have BL:=Lib.hid G54.out.drew
    clear K54 G54
    have hGv:=HGv.out
    go_region_held3 (fun W'=>(W'.cell? ⟨w5.heap.size,0,none⟩=some (.slice C2 kf cl2)∧W'.cell? ⟨w5.heap.size,1,none⟩=some (.bool G)∧W'.cell? ⟨w5.heap.size,2,none⟩=some (.int .i64 most)∧W'.cell? ⟨w5.heap.size,3,none⟩=some (.slice D2 q2 dc2))∧(W'.cell? ⟨w3.heap.size,0,none⟩=some (.int .i64 most)∧W'.cell? ⟨w3.heap.size,1,none⟩=some (.slice A4 q2 c4))) (first | with_reducible exact SH.out | with_reducible exact SH0.out)
     (first
      | (go_at_call 38;(with_reducible refine(p_fields (A:=C2) (n:=kf) (n':=kf) (xs:=ls.take kf) (ys:=ls.take kf) (b:=true) _ HC.out (by simp) (by simp) (by omega) (decide_eq_true rfl)).mono ?_);rintro e1 w99 ⟨rfl,hb⟩;replace BL:=Lib.hid (below_step BL.out hb);replace HC:=Lib.hid (HC.out.on hb);replace SH:Hid ((w99.cell? ⟨w5.heap.size,0,none⟩=some (.slice C2 kf cl2)∧w99.cell? ⟨w5.heap.size,1,none⟩=some (.bool G)∧w99.cell? ⟨w5.heap.size,2,none⟩=some (.int .i64 most)∧w99.cell? ⟨w5.heap.size,3,none⟩=some (.slice D2 q2 dc2))∧(w99.cell? ⟨w3.heap.size,0,none⟩=some (.int .i64 most)∧w99.cell? ⟨w3.heap.size,1,none⟩=some (.slice A4 q2 c4))):=Lib.hid ⟨cells4_row (HC.out.row 0 rfl),cells2_row (HC.out.row 1 rfl)⟩;clear hb)
      | (go_at_call 29;(with_reducible refine(p_tsame (A:=D2) (A':=A4) (n:=q2) (n':=q2) (xs:=Y2) (ys:=Y2) (b:=true) _ HC.out (by simp) (by simp) (hb2.out.2 h0 h1) (by unfold sameB;simp)).mono ?_);rintro e1 w99 ⟨rfl,hb⟩;replace BL:=Lib.hid (below_step BL.out hb);replace HC:=Lib.hid (HC.out.on hb);replace SH:Hid ((w99.cell? ⟨w5.heap.size,0,none⟩=some (.slice C2 kf cl2)∧w99.cell? ⟨w5.heap.size,1,none⟩=some (.bool G)∧w99.cell? ⟨w5.heap.size,2,none⟩=some (.int .i64 most)∧w99.cell? ⟨w5.heap.size,3,none⟩=some (.slice D2 q2 dc2))∧(w99.cell? ⟨w3.heap.size,0,none⟩=some (.int .i64 most)∧w99.cell? ⟨w3.heap.size,1,none⟩=some (.slice A4 q2 c4))):=Lib.hid ⟨cells4_row (HC.out.row 0 rfl),cells2_row (HC.out.row 1 rfl)⟩;clear hb)
      | (go_at_call 25;(with_reducible refine(wakes11 _ HC.out (by simp) (by simp) (by simp)).mono ?_);rintro e1 w99 ⟨rfl,hb⟩;replace BL:=Lib.hid (below_step BL.out hb);replace HC:=Lib.hid (HC.out.on hb);replace SH:Hid ((w99.cell? ⟨w5.heap.size,0,none⟩=some (.slice C2 kf cl2)∧w99.cell? ⟨w5.heap.size,1,none⟩=some (.bool G)∧w99.cell? ⟨w5.heap.size,2,none⟩=some (.int .i64 most)∧w99.cell? ⟨w5.heap.size,3,none⟩=some (.slice D2 q2 dc2))∧(w99.cell? ⟨w3.heap.size,0,none⟩=some (.int .i64 most)∧w99.cell? ⟨w3.heap.size,1,none⟩=some (.slice A4 q2 c4))):=Lib.hid ⟨cells4_row (HC.out.row 0 rfl),cells2_row (HC.out.row 1 rfl)⟩;clear hb))
    go_wp2
    go_ret
    exact⟨rfl,BL.out⟩
theorem pb_all(M:Int)(A:Option Addr)(n c:Nat)(LA:Option Addr)(ln lc:Nat)(most:Int)(w:World)(hR:Up.Vars w)(hI:IsFlds w A n c)(hJ:IsFlds w LA ln lc) :
  Calls Tryz.prog 5 #[.agg #[.int .i64 M,.slice A n c],.slice LA ln lc,.int .i64 most] w fun e w'=>e = .returned (.bool true)∧Below w.heap.size w w':=by
 obtain⟨xs,hA,hS,hnc,hcm,hN⟩:=rowFlds hI
 obtain⟨ls,hL,hT,hnl,hlm,hLN⟩:=rowFlds hJ
 have hV:EnvF w [fF LA ln ls,fF A n xs,stF,rwF,mvF] []:=(Pk.start11 hR hA).addF hL
 have HG:=great_call (M:=M) hA hnc hcm hS hL hnl hlm hT
 cases hg:gB xs ls with
 | true=>rw[hg] at HG;exact pb_g M most A n c xs LA ln lc ls w hV HG
 | false=>
  rw[hg] at HG
  obtain⟨g1,g2,g3,g4⟩:=g_bd hg
  have e1:=hA.1
  have e2:=hL.1
  cases hr:rightB M xs with
  | false=>exact pb_r M most A n c xs LA ln lc ls w hV HG (right_call (by omega) hr)
  | true=>
   have hkf:=fit_le 2000 ls
   have lk:=keep_len 2000 ls
   obtain⟨b1,b2,b3,b4,b5⟩:=bk_back (M:=M) (most:=4096) (xs:=xs) (ls:=ls) hr (by omega) (by omega) (by omega)
   have l1:=kB_len M ls xs (by omega)
   have l2:=kB_len most ls (keep most xs) (by omega)
   have l3:=putL_len most (5:Nat) 32
   have q1:(kX M xs ls).length≤1000000:=by
    have h1:=okB_of (kX_right hr ls)
    have h2:=full_len (kX M xs ls)
    omega
   have q2:0≤most→most≤4096→(kX most (keep most xs) ls).length≤1000000:=fun h0 h1=>by
    have h2:=okB_of (kX_right (right_of h0 h1 (keep_full xs h0)) ls)
    have h3:=full_len (kX most (keep most xs) ls)
    omega
   exact pb_main M most A n c xs LA ln lc ls w hV HG (right_call (by omega) hr) (Lib.hid hN) (Lib.hid (by omega)) (Lib.hid hr) (Lib.hid g3) (Lib.hid rfl) (Lib.hid rfl) (Lib.hid rfl) (Lib.hid rfl) (Lib.hid ⟨by omega,q1⟩) (Lib.hid ⟨b1,b2,b3,b4,b5,lk,rfl⟩) (Lib.hid ⟨by omega,rfl⟩) (Lib.hid e2) (Lib.hid ⟨hnl,hlm⟩) (Lib.hid fun h0 h1=>by
    obtain⟨d1,d2,d3,d4,d5⟩:=bk_sized (M:=M) (most:=most) (xs:=xs) (ls:=ls) hr h0 h1 (by omega)
    exact⟨d1,d2,d3,d4,d5,lk,rfl⟩) (Lib.hid rfl) (Lib.hid rfl) (Lib.hid rfl) (Lib.hid rfl) (Lib.hid ⟨by simp only[List.length_append];omega,q2⟩) (Lib.hid (by rw[←e2];exact fit_long ls))
end Go.Proofs.YtahiajeggbpogaaGreatDoor
