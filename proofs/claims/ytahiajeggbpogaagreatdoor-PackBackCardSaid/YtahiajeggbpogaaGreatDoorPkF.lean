import Derived.Test.YtahiajeggbpogaaGreatDoorPkE
set_option maxRecDepth 100000
set_option maxHeartbeats 4000000
namespace Go.Proofs.YtahiajeggbpogaaGreatDoor
open Go.RowKit Go.Shelf Px Tx Tb Up Pk
set_option linter.unusedVariables false
set_option linter.unusedSimpArgs false
attribute [local go_sem] Oper.semAt_some
theorem p_blockP{fs:List Fact}{gs lb:List Bx}{B B1:Nat}{L0 L:List UInt8}{M m:Int}{A:Option Addr}{n c:Nat}{xs ls X Y:List Fd}{k q:Nat}(b0:Option Addr)(k0 d0:Nat)(LA:Option Addr)(ln lc:Nat)(w:World)(hV:EnvF w fs (gs++lb))(hl:BX B (.slice b0 k0 d0) L0 lb)(hBw:B≤w.heap.size)(hB1:B1≤w.heap.size)(hA:fF A n xs∈fs)(hL:fF LA ln ls∈fs)(hN:A=none→c=0)(hF:full xs≤100000)(hS:stF∈fs)(hR:rwF∈fs)(hM:mvF∈fs)(hr:rightB m X=true)(h1:resM M xs m=m)(h2:resE M xs m=0)(h3:resL M xs m=X)(hz:full ls≤7000)(hl0:L0.length≤100)(hB:L0++kB m X ls=L)(hY:kX m X ls=Y)(hk:L.length=k)(hq:Y.length=q) :
  Calls Tryz.prog 57 #[.slice b0 k0 d0,.agg #[.int .i64 M,.slice A n c],.int .i64 m,.slice LA ln lc] w fun e w'=>∃A1 c1 A2 c2,e = .returned (.tuple #[.slice A1 k c1,.agg #[.int .i64 m,.slice A2 q c2],.int .i64 0])∧Below B w w'∧EnvF w' (bF A1 k L::oF B1 27 (.slice A2 q c2) Y::fF A2 q Y::fs) gs∧(k≤c1∧(A1=none→c1=0))∧(A2=none→c2=0):=by
 subst hB hY hq
 refine(c_block_go b0 k0 d0 LA ln lc w hV hl hBw hA hL hN hF hS hR hM hr h1 h2 h3 rfl hz hl0).mono ?_
 rintro e w' ⟨v',A',c',lb',rfl,hb,hx,hn,hE⟩
 obtain⟨A1,c1,rfl,h5,h6⟩:=hx.form hE
 subst hk
 exact⟨A1,c1,A',c',rfl,hb,bx_fact (env_less hE hB1) hx rfl,⟨h5,h6⟩,hn⟩
theorem p_block0{fs:List Fact}{gs:List Bx}{B1:Nat}{L:List UInt8}{M m:Int}{A:Option Addr}{n c:Nat}{xs ls X Y:List Fd}{k q:Nat}(LA:Option Addr)(ln lc:Nat)(w:World)(hV:EnvF w fs gs)(hB1:B1≤w.heap.size)(hA:fF A n xs∈fs)(hL:fF LA ln ls∈fs)(hN:A=none→c=0)(hF:full xs≤100000)(hS:stF∈fs)(hR:rwF∈fs)(hM:mvF∈fs)(hr:rightB m X=true)(h1:resM M xs m=m)(h2:resE M xs m=0)(h3:resL M xs m=X)(hz:full ls≤7000)(hB:kB m X ls=L)(hY:kX m X ls=Y)(hk:L.length=k)(hq:Y.length=q) :
  Calls Tryz.prog 57 #[.slice none 0 0,.agg #[.int .i64 M,.slice A n c],.int .i64 m,.slice LA ln lc] w fun e w'=>∃A1 c1 A2 c2,e = .returned (.tuple #[.slice A1 k c1,.agg #[.int .i64 m,.slice A2 q c2],.int .i64 0])∧Below w.heap.size w w'∧EnvF w' (bF A1 k L::oF B1 27 (.slice A2 q c2) Y::fF A2 q Y::fs) gs∧(k≤c1∧(A1=none→c1=0))∧(A2=none→c2=0):=
 p_blockP (lb:=[]) (L0:=[]) none 0 0 LA ln lc w (by rw[List.append_nil];exact hV) (.inl ⟨rfl,rfl,rfl⟩) (Nat.le_refl _) hB1 hA hL hN hF hS hR hM hr h1 h2 h3 hz (by simp) (by rw[List.nil_append];exact hB) hY hk hq
theorem p_block_no{fs:List Fact}{gs:List Bx}{M m:Int}{A:Option Addr}{n c:Nat}{xs:List Fd}(b0:Option Addr)(k0 d0:Nat)(LA:Option Addr)(ln lc:Nat)(w:World)(hV:EnvF w fs gs)(hA:fF A n xs∈fs)(hN:A=none→c=0)(hF:full xs≤100000)(h:resB M xs m=false) :
  Calls Tryz.prog 57 #[.slice b0 k0 d0,.agg #[.int .i64 M,.slice A n c],.int .i64 m,.slice LA ln lc] w fun e w'=>e = .returned (.tuple #[.slice none 0 0,.agg #[.int .i64 0,.slice none 0 0],.int .i64 2])∧Below w.heap.size w w':=
 c_block_no b0 k0 d0 LA ln lc w (hV.fs hA) hN hF h
namespace Pk
theorem env_less2{W:World}{fs:List Fact}{gs:List Bx}{B B1:Nat}{t:TypeId}{v:Value}{xs:List Fd}{y:Fact}(h:EnvF W (y::oF B t v xs::fs) gs)(hB:B1≤B):EnvF W (y::oF B1 t v xs::fs) gs:=
 ⟨fun x hx=>by
  rcases List.mem_cons.1 hx with rfl | hx
  ·exact h.f _ (List.mem_cons_self ..)
  rcases List.mem_cons.1 hx with rfl | hx
  ·have h1:=h.f (oF B t v xs) (List.mem_cons_of_mem _ (List.mem_cons_self ..))
   exact⟨OwnF.less h1.1 hB,h1.2⟩
  ·exact h.f x (List.mem_cons_of_mem _ (List.mem_cons_of_mem _ hx)),h.g,h.d⟩
theorem res_same{M:Int}{xs:List Fd}(h:rightB M xs=true):resM M xs M=M∧resE M xs M=0∧resL M xs M=xs:=by
 obtain⟨h0,h1,h2⟩:=okB_of h
 have hb:resB M xs M=true:=by
  unfold resB okB
  rw[h]
  simp only[Bool.true_and,Bool.and_eq_true,decide_eq_true_eq]
  exact⟨h0,h1⟩
 unfold resM resE resL
 rw[hb]
 exact⟨rfl,rfl,keep_all h2⟩
end Pk
theorem c_Block_y{fs:List Fact}{gs:List Bx}{L:List UInt8}{A:Option Addr}{n c:Nat}{xs Y:List Fd}{k q:Nat}{M:Int}{ls:List Fd}(LA:Option Addr)(ln lc:Nat)(w:World)(hV:EnvF w fs gs)(HA:Hid (fF A n xs∈fs))(HN:Hid (A=none→c=0))(HF:Hid (full xs≤100000))(HS:Hid (stF∈fs))(HR:Hid (rwF∈fs))(HM:Hid (mvF∈fs))(HL:Hid (fF LA ln ls∈fs))(hr:Hid (rightB M xs=true))(hres:Hid (resM M xs M=M∧resE M xs M=0∧resL M xs M=xs))(hz:Hid (full ls≤7000))(hB:Hid (kB M xs ls=L))(hY:Hid (kX M xs ls=Y))(hk:Hid (L.length=k))(hq:Hid (Y.length=q)) :
  Calls Tryz.prog 30 #[.agg #[.int .i64 M,.slice A n c],.slice LA ln lc] w fun e w'=>∃A1 c1 A2 c2,e = .returned (.tuple #[.slice A1 k c1,.agg #[.int .i64 M,.slice A2 q c2],.int .i64 0])∧Below w.heap.size w w'∧EnvF w' (bF A1 k L::oF w.heap.size 27 (.slice A2 q c2) Y::fF A2 q Y::fs) gs∧(k≤c1∧(A1=none→c1=0))∧(A2=none→c2=0):=by
 have K0:=Lib.hid (((hV).boxg 24 #[.int .i64 M,.slice A n c] w.heap.size rfl).boxg 24 #[.int .i64 0,.slice none 0 0] (w.heap.size+1) (by simp))
 have G0:=Lib.hid (((Below.refl w.heap.size w).alloc (Nat.le_refl _) (.cells #[.int .i64 M,.slice A n c] 24)).alloc (by simp;try omega) (.cells #[.int .i64 0,.slice none 0 0] 24))
 have HZ0:Hid (w.heap.size≤((w.alloc (.cells #[.int .i64 M,.slice A n c] 24)).alloc (.cells #[.int .i64 0,.slice none 0 0] 24)).heap.size):=Lib.hid (by simp only[World.size_alloc];omega)
 clear hV
 go_enter Tryz.func30,Tryz.ntmps30
 go_wp2_with (first
  | go_skip
  | (refine at_load 24 (.tmp 2) (by rfl) ?_;refine wpListG_row (by rfl) 24 (.tmp 2) (by rfl) w.heap.size (by rfl) 24 #[.int .i64 M,.slice A n c] _ (K0.out.row 1 rfl) Tryz.underlying24 (by rfl) infoc_T ?_)
  | (refine at_load 3 (.tmp 8) (by rfl) ?_;refine wpListG_get (by rfl) 3 (.tmp 8) (by rfl) w.heap.size 0 (by rfl) 24 #[.int .i64 M,.slice A n c] (.int .i64 M) _ (K0.out.row 1 rfl) (by rfl) Tryz.underlying3 (by rfl) ?_)
  | (go_at_call 57;(with_reducible refine(p_block0 (B1:=w.heap.size) (A:=A) (n:=n) (c:=c) (xs:=xs) (X:=xs) LA ln lc _ K0.out (by simp only[World.size_alloc];omega) (by simp[HA.out]) (by simp[HL.out]) HN.out HF.out (by simp[HS.out]) (by simp[HR.out]) (by simp[HM.out]) hr.out hres.out.1 hres.out.2.1 hres.out.2.2 hz.out hB.out hY.out hk.out hq.out).mono ?_);rintro e w1 ⟨A1,c1,A2,c2,rfl,hb,hE,HA10⟩;have K1:=Lib.hid hE;have HA1:=Lib.hid HA10;have G1:=Lib.hid (below_step G0.out hb);clear hb hE HA10 K0 G0)
  | (refine at_store 24 (.tmp 5) (.tmp 13) (by rfl) ?_;refine wpList_put (by rfl) 24 (.tmp 5) (.tmp 13) (by rfl) (w.heap.size+1) 0 (.agg #[.int .i64 M,.slice A2 q c2]) (by rfl) (by rfl) 24 #[.int .i64 0,.slice none 0 0] #[.int .i64 M,.slice A2 q c2] (K1.out.row 0 rfl) (by simp[Value.cells]) (by kernel_rfl) infoc_T (by kernel_rfl) ?_;intro w2 hrow hoth hz hbl;have K2:=Lib.hid (K1.out.turn 0 rfl hrow hoth hz);have G2:=Lib.hid (hbl _ _ (by omega) G1.out);clear hrow hoth hz hbl K1 G1))
 have KE:=K2.out
 exact bodyPost_ret (res_tct rfl _ _ _ _ _ _ rfl (KE.row 0 rfl) Tryz.underlying24 rfl infoc_T) rfl ⟨A1,c1,A2,c2,rfl,G2.out,KE.sub (fun y hy=>by simp only[List.mem_cons] at hy ⊢;rcases hy with rfl | rfl | rfl | hy<;>simp[*]) (by simp only[List.set_cons_succ,List.set_cons_zero];repeat (first | exact List.Sublist.refl _ | apply List.Sublist.cons)),HA1.out.1,HA1.out.2⟩
theorem c_Block_n{fs:List Fact}{gs:List Bx}{A:Option Addr}{n c:Nat}{xs:List Fd}{M:Int}(LA:Option Addr)(ln lc:Nat)(w:World)(hV:EnvF w fs gs)(HA:Hid (fF A n xs∈fs))(HN:Hid (A=none→c=0))(HF:Hid (full xs≤100000))(hb0:Hid (resB M xs M=false)) :
  Calls Tryz.prog 30 #[.agg #[.int .i64 M,.slice A n c],.slice LA ln lc] w fun e w'=>e = .returned (.tuple #[.slice none 0 0,.agg #[.int .i64 0,.slice none 0 0],.int .i64 2])∧Below w.heap.size w w':=by
 have K0:=Lib.hid (((hV).boxg 24 #[.int .i64 M,.slice A n c] w.heap.size rfl).boxg 24 #[.int .i64 0,.slice none 0 0] (w.heap.size+1) (by simp))
 have G0:=Lib.hid (((Below.refl w.heap.size w).alloc (Nat.le_refl _) (.cells #[.int .i64 M,.slice A n c] 24)).alloc (by simp;try omega) (.cells #[.int .i64 0,.slice none 0 0] 24))
 clear hV
 go_enter Tryz.func30,Tryz.ntmps30
 go_wp2_with (first
  | go_skip
  | (refine at_load 24 (.tmp 2) (by rfl) ?_;refine wpListG_row (by rfl) 24 (.tmp 2) (by rfl) w.heap.size (by rfl) 24 #[.int .i64 M,.slice A n c] _ (K0.out.row 1 rfl) Tryz.underlying24 (by rfl) infoc_T ?_)
  | (refine at_load 3 (.tmp 8) (by rfl) ?_;refine wpListG_get (by rfl) 3 (.tmp 8) (by rfl) w.heap.size 0 (by rfl) 24 #[.int .i64 M,.slice A n c] (.int .i64 M) _ (K0.out.row 1 rfl) (by rfl) Tryz.underlying3 (by rfl) ?_)
  | (go_at_call 57;(with_reducible refine(p_block_no none 0 0 LA ln lc _ K0.out (by simp[HA.out]) HN.out HF.out hb0.out).mono ?_);rintro e w1 ⟨rfl,hb⟩;have K1:=Lib.hid (K0.out.on hb);have G1:=Lib.hid (below_step G0.out hb);clear hb K0 G0)
  | (refine at_store 24 (.tmp 5) (.tmp 13) (by rfl) ?_;refine wpList_put (by rfl) 24 (.tmp 5) (.tmp 13) (by rfl) (w.heap.size+1) 0 (.agg #[.int .i64 0,.slice none 0 0]) (by rfl) (by rfl) 24 #[.int .i64 0,.slice none 0 0] #[.int .i64 0,.slice none 0 0] (K1.out.row 0 rfl) (by simp[Value.cells]) (by kernel_rfl) infoc_T (by kernel_rfl) ?_;intro w2 hrow hoth hz hbl;have K2:=Lib.hid (K1.out.turn 0 rfl hrow hoth hz);have G2:=Lib.hid (hbl _ _ (by omega) G1.out);clear hrow hoth hz hbl K1 G1))
 have KE:=K2.out
 exact bodyPost_ret (res_tct rfl _ _ _ _ _ _ rfl (KE.row 0 rfl) Tryz.underlying24 rfl infoc_T) rfl ⟨rfl,G2.out⟩
theorem p_Block{fs:List Fact}{gs:List Bx}{L:List UInt8}{A:Option Addr}{n c:Nat}{xs Y:List Fd}{k q:Nat}{M:Int}{ls:List Fd}(LA:Option Addr)(ln lc:Nat)(w:World)(hV:EnvF w fs gs)(hA:fF A n xs∈fs)(hN:A=none→c=0)(hS:stF∈fs)(hR:rwF∈fs)(hM:mvF∈fs)(hL:fF LA ln ls∈fs)(hr:rightB M xs=true)(hz:full ls≤7000)(hB:kB M xs ls=L)(hY:kX M xs ls=Y)(hk:L.length=k)(hq:Y.length=q) :
  Calls Tryz.prog 30 #[.agg #[.int .i64 M,.slice A n c],.slice LA ln lc] w fun e w'=>∃A1 c1 A2 c2,e = .returned (.tuple #[.slice A1 k c1,.agg #[.int .i64 M,.slice A2 q c2],.int .i64 0])∧Below w.heap.size w w'∧EnvF w' (bF A1 k L::oF w.heap.size 27 (.slice A2 q c2) Y::fF A2 q Y::fs) gs∧(k≤c1∧(A1=none→c1=0))∧(A2=none→c2=0):=
 c_Block_y LA ln lc w hV (Lib.hid hA) (Lib.hid hN) (Lib.hid (by have:=okB_of hr;omega)) (Lib.hid hS) (Lib.hid hR) (Lib.hid hM) (Lib.hid hL) (Lib.hid hr) (Lib.hid (res_same hr)) (Lib.hid hz) (Lib.hid hB) (Lib.hid hY) (Lib.hid hk) (Lib.hid hq)
theorem p_Block_no{fs:List Fact}{gs:List Bx}{A:Option Addr}{n c:Nat}{xs:List Fd}{M:Int}(LA:Option Addr)(ln lc:Nat)(w:World)(hV:EnvF w fs gs)(hA:fF A n xs∈fs)(hN:A=none→c=0)(hF:full xs≤100000)(hr:rightB M xs=false) :
  Calls Tryz.prog 30 #[.agg #[.int .i64 M,.slice A n c],.slice LA ln lc] w fun e w'=>e = .returned (.tuple #[.slice none 0 0,.agg #[.int .i64 0,.slice none 0 0],.int .i64 2])∧Below w.heap.size w w':=
 c_Block_n LA ln lc w hV (Lib.hid hA) (Lib.hid hN) (Lib.hid hF) (Lib.hid (by unfold resB;rw[hr];rfl))
theorem c_Field_y{fs:List Fact}{gs:List Bx}{L:List UInt8}{A:Option Addr}{n c:Nat}{xs Y:List Fd}{k q:Nat}{M:Int}(fa fb:List UInt8)(w:World)(hV:EnvF w fs gs)(HA:Hid (fF A n xs∈fs))(HN:Hid (A=none→c=0))(HF:Hid (full xs≤100000))(HS:Hid (stF∈fs))(HR:Hid (rwF∈fs))(HM:Hid (mvF∈fs))(hr:Hid (rightB M xs=true))(hz:Hid (full [((⟨fa.toArray⟩,⟨fb.toArray⟩):Fd)]≤7000))(hB:Hid (kB M xs [((⟨fa.toArray⟩,⟨fb.toArray⟩):Fd)]=L))(hY:Hid (kX M xs [((⟨fa.toArray⟩,⟨fb.toArray⟩):Fd)]=Y))(hk:Hid (L.length=k))(hq:Hid (Y.length=q)) :
  Calls Tryz.prog 26 #[.agg #[.int .i64 M,.slice A n c],.agg #[.string ⟨fa.toArray⟩,.string ⟨fb.toArray⟩]] w fun e w'=>∃A1 c1 A2 c2,e = .returned (.tuple #[.slice A1 k c1,.agg #[.int .i64 M,.slice A2 q c2],.int .i64 0])∧Below w.heap.size w w'∧EnvF w' (bF A1 k L::oF w.heap.size 27 (.slice A2 q c2) Y::fF A2 q Y::fs) gs∧(k≤c1∧(A1=none→c1=0))∧(A2=none→c2=0):=by
 have K0:=Lib.hid ((((hV).boxg 24 #[.int .i64 M,.slice A n c] w.heap.size rfl).boxg 27 #[.string ⟨fa.toArray⟩,.string ⟨fb.toArray⟩] (w.heap.size+1) (by simp)).boxg 24 #[.int .i64 0,.slice none 0 0] (w.heap.size+1+1) (by simp))
 have G0:=Lib.hid ((((Below.refl w.heap.size w).alloc (Nat.le_refl _) (.cells #[.int .i64 M,.slice A n c] 24)).alloc (by simp;try omega) (.cells #[.string ⟨fa.toArray⟩,.string ⟨fb.toArray⟩] 27)).alloc (by simp;try omega) (.cells #[.int .i64 0,.slice none 0 0] 24))
 obtain⟨W0,hW0⟩ : ∃W0,(((w.alloc (.cells #[.int .i64 M,.slice A n c] 24)).alloc (.cells #[.string ⟨fa.toArray⟩,.string ⟨fb.toArray⟩] 27)).alloc (.cells #[.int .i64 0,.slice none 0 0] 24))=W0:=⟨_,rfl⟩
 have hW1:W0.heap.size=w.heap.size+1+1+1:=by rw[←hW0];simp
 rw[hW0] at K0 G0
 clear hV
 go_enter Tryz.func26,Tryz.ntmps26
 go_wp2_with (first
  | go_skip
  | (refine at_load 24 (.tmp 2) (by rfl) ?_;refine wpListG_row (by rfl) 24 (.tmp 2) (by rfl) w.heap.size (by rfl) 24 #[.int .i64 M,.slice A n c] _ (K0.out.row 2 rfl) Tryz.underlying24 (by rfl) infoc_T ?_)
  | (refine at_load 27 (.tmp 3) (by rfl) ?_;refine wpListG_row (by rfl) 27 (.tmp 3) (by rfl) (w.heap.size+1) (by rfl) 27 #[.string ⟨fa.toArray⟩,.string ⟨fb.toArray⟩] _ (K0.out.row 1 rfl) Tryz.underlying27 (by rfl) infoc_D ?_)
  | (go_at_call 30;(try rw[hW0]);have K0l:=Lib.hid (K0.out.litf 27 [(⟨fa.toArray⟩,⟨fb.toArray⟩)] #[.string ⟨fa.toArray⟩,.string ⟨fb.toArray⟩] (by simp[fdc]) 1 rfl (w.heap.size+1+1+1) hW1);have G0l:=Lib.hid (G0.out.alloc G0.out.size (.cells #[.string ⟨fa.toArray⟩,.string ⟨fb.toArray⟩] 27));(with_reducible refine(p_Block (A:=A) (n:=n) (c:=c) (xs:=xs) (ls:=[(⟨fa.toArray⟩,⟨fb.toArray⟩)]) (some ⟨w.heap.size+1+1+1,0,none⟩) 1 1 _ K0l.out (by simp[HA.out]) HN.out (by simp[HS.out]) (by simp[HR.out]) (by simp[HM.out]) (by simp) hr.out hz.out hB.out hY.out hk.out hq.out).mono ?_);rintro e w1 ⟨A1,c1,A2,c2,rfl,hb,hE,HA10⟩;have K1:=Lib.hid (env_less2 hE G0l.out.size);have HA1:=Lib.hid HA10;have HZ0:Hid (w.heap.size≤(W0.alloc (.cells #[.string ⟨fa.toArray⟩,.string ⟨fb.toArray⟩] 27)).heap.size):=Lib.hid G0l.out.size;have G1:=Lib.hid (below_step G0l.out hb);clear hb hE HA10 K0 G0 K0l G0l)
  | (refine at_store 24 (.tmp 5) (.tmp 12) (by rfl) ?_;refine wpList_put (by rfl) 24 (.tmp 5) (.tmp 12) (by rfl) (w.heap.size+1+1) 0 (.agg #[.int .i64 M,.slice A2 q c2]) (by rfl) (by rfl) 24 #[.int .i64 0,.slice none 0 0] #[.int .i64 M,.slice A2 q c2] (K1.out.row 0 rfl) (by simp[Value.cells]) (by kernel_rfl) infoc_T (by kernel_rfl) ?_;intro w2 hrow hoth hz hbl;have K2:=Lib.hid (K1.out.turn 0 rfl hrow hoth hz);have G2:=Lib.hid (hbl _ _ (by omega) G1.out);clear hrow hoth hz hbl K1 G1))
 have KE:=K2.out
 exact bodyPost_ret (res_tct rfl _ _ _ _ _ _ rfl (KE.row 0 rfl) Tryz.underlying24 rfl infoc_T) rfl ⟨A1,c1,A2,c2,rfl,G2.out,KE.sub (fun y hy=>by simp only[List.mem_cons] at hy ⊢;rcases hy with rfl | rfl | rfl | hy<;>simp[*]) (by simp only[List.set_cons_succ,List.set_cons_zero];repeat (first | exact List.Sublist.refl _ | apply List.Sublist.cons)),HA1.out.1,HA1.out.2⟩
theorem p_Field{fs:List Fact}{gs:List Bx}{L:List UInt8}{A:Option Addr}{n c:Nat}{xs Y:List Fd}{k q:Nat}{M:Int}(a b:ByteArray)(w:World)(hV:EnvF w fs gs)(hA:fF A n xs∈fs)(hN:A=none→c=0)(hS:stF∈fs)(hR:rwF∈fs)(hM:mvF∈fs)(hr:rightB M xs=true)(hz:sz ((a,b):Fd)≤7000)(hB:fB M xs (a,b)=L)(hY:fX M xs (a,b)=Y)(hk:L.length=k)(hq:Y.length=q) :
  Calls Tryz.prog 26 #[.agg #[.int .i64 M,.slice A n c],.agg #[.string a,.string b]] w fun e w'=>∃A1 c1 A2 c2,e = .returned (.tuple #[.slice A1 k c1,.agg #[.int .i64 M,.slice A2 q c2],.int .i64 0])∧Below w.heap.size w w'∧EnvF w' (bF A1 k L::oF w.heap.size 27 (.slice A2 q c2) Y::fF A2 q Y::fs) gs∧(k≤c1∧(A1=none→c1=0))∧(A2=none→c2=0):=by
 obtain⟨fa,fb,e⟩:=fd_form (a,b)
 cases e
 exact c_Field_y fa fb w hV (Lib.hid hA) (Lib.hid hN) (Lib.hid (by have:=okB_of hr;omega)) (Lib.hid hS) (Lib.hid hR) (Lib.hid hM) (Lib.hid hr) (Lib.hid (by show sz _+0≤7000;omega)) (Lib.hid (by show fB M xs _++[]=L;rw[List.append_nil];exact hB)) (Lib.hid hY) (Lib.hid hk) (Lib.hid hq)
end Go.Proofs.YtahiajeggbpogaaGreatDoor
