import Derived.Test.YtahiajeggbpogaaGreatDoorPkR
set_option maxRecDepth 100000
set_option maxHeartbeats 4000000
namespace Go.Proofs.YtahiajeggbpogaaGreatDoor
open Go.RowKit Go.Shelf Px Tx Tb Up Pk GD
set_option linter.unusedVariables false
set_option linter.unusedSimpArgs false
attribute [local go_sem] Oper.semAt_some
theorem q_Field_10{fs:List Fact}{gs:List Bx}{L:List UInt8}{k m:Nat}{X:List Fd}(M:Int)(A:Option Addr)(n c:Nat)(xs:List Fd)(fa fb:List UInt8)(w:World)(hV:EnvF w fs gs)(HA:Hid (fF A n xs∈fs))(HN:Hid (A=none→c=0))(HF1:Hid (full xs≤1000000))(hr:Hid (rightB M xs=true))(hres:Hid (resM M xs M=M∧resE M xs M=0∧resL M xs M=xs))(HF:Hid (full xs≤100000))(Hn:Hid (n≤1000000))(Hxn:Hid (xs.length=n))(Ha:Hid (fa.length≤10000))(Hb:Hid (fb.length≤10000))(HK:Hid (L.length=k))(i:Nat)(HI:Hid (findI xs ((⟨fa.toArray⟩,⟨fb.toArray⟩):Fd)=i))(HB:Hid (findB xs ((⟨fa.toArray⟩,⟨fb.toArray⟩):Fd)=false))(Hz:Hid (sz ((⟨fa.toArray⟩,⟨fb.toArray⟩):Fd)≤100000)){V:Int}(HW:Hid (wy M (⟨fa.toArray⟩,⟨fb.toArray⟩)=V)){L0:List UInt8}{k0:Nat}(HL0:Hid (fldL fa fb V=L0))(HK0:Hid (L0.length=k0))(HL:Hid (nmL (i:Int) fb V=L))(HE:Hid (nmE (i:Int) V=0))(hi1:decide ((0:Int)<(i:Int))=true)(hi2:decide (0<i)=true)(hV1:((V:Int)==1)=false)(hm:n=m)(hX:xs=X) :
  Calls Tryz.prog 27 #[.agg #[.int .i64 M,.slice A n c],.agg #[.string ⟨fa.toArray⟩,.string ⟨fb.toArray⟩]] w fun e w'=>∃A1 c1 A2 c2,e = .returned (.tuple #[.slice A1 k c1,.agg #[.int .i64 M,.slice A2 m c2],.int .i64 0])∧Below w.heap.size w w'∧EnvF w' (bF A1 k L::fF A2 m X::fs) gs∧(k≤c1∧(A1=none→c1=0))∧(A2=none→c2=0):=by
 subst hm hX
 have K0:=Lib.hid ((((hV).boxg 24 #[.int .i64 M,.slice A n c] w.heap.size rfl).boxg 27 #[.string ⟨fa.toArray⟩,.string ⟨fb.toArray⟩] (w.heap.size+1) (by simp)).boxg 24 #[.int .i64 0,.slice none 0 0] (w.heap.size+1+1) (by simp))
 have G0:=Lib.hid ((((Below.refl w.heap.size w).alloc (Nat.le_refl _) (.cells #[.int .i64 M,.slice A n c] 24)).alloc (by simp;try omega) (.cells #[.string ⟨fa.toArray⟩,.string ⟨fb.toArray⟩] 27)).alloc (by simp;try omega) (.cells #[.int .i64 0,.slice none 0 0] 24))
 clear hV
 go_enter Tryz.func27,Tryz.ntmps27
 go_wp2_with (first
  | go_skip
  | (refine at_load 24 (.tmp 2) (by rfl) ?_;refine wpListG_row (by rfl) 24 (.tmp 2) (by rfl) w.heap.size (by rfl) 24 #[.int .i64 M,.slice A n c] _ (K0.out.row 2 rfl) Tryz.underlying24 (by rfl) infoc_T ?_)
  | (go_at_call 36;(with_reducible refine(q_right (A:=A) (n:=n) (xs:=xs) _ K0.out (by simp[HA.out]) HF1.out hr.out).mono ?_);rintro e w1 ⟨rfl,hb⟩;have K1:=Lib.hid (K0.out.on hb);have G1:=Lib.hid (below_step G0.out hb);clear hb K0 G0)
  | (refine at_load 24 (.tmp 2) (by rfl) ?_;refine wpListG_row (by rfl) 24 (.tmp 2) (by rfl) w.heap.size (by rfl) 24 #[.int .i64 M,.slice A n c] _ (K1.out.row 2 rfl) Tryz.underlying24 (by rfl) infoc_T ?_)
  | (refine at_load 27 (.tmp 3) (by rfl) ?_;refine wpListG_row (by rfl) 27 (.tmp 3) (by rfl) (w.heap.size+1) (by rfl) 27 #[.string ⟨fa.toArray⟩,.string ⟨fb.toArray⟩] _ (K1.out.row 1 rfl) Tryz.underlying27 (by rfl) infoc_D ?_)
  | (go_at_call 54;(with_reducible refine(q_find (A:=A) (n:=n) (xs:=xs) _ K1.out (by simp[HA.out]) Hn.out HI.out HB.out).mono ?_);rintro e w2 ⟨rfl,hb⟩;have K2:=Lib.hid (K1.out.on hb);have G2:=Lib.hid (below_step G1.out hb);clear hb K1 G1)
  | (refine at_load 24 (.tmp 2) (by rfl) ?_;refine wpListG_row (by rfl) 24 (.tmp 2) (by rfl) w.heap.size (by rfl) 24 #[.int .i64 M,.slice A n c] _ (K2.out.row 2 rfl) Tryz.underlying24 (by rfl) infoc_T ?_)
  | (refine at_load 27 (.tmp 3) (by rfl) ?_;refine wpListG_row (by rfl) 27 (.tmp 3) (by rfl) (w.heap.size+1) (by rfl) 27 #[.string ⟨fa.toArray⟩,.string ⟨fb.toArray⟩] _ (K2.out.row 1 rfl) Tryz.underlying27 (by rfl) infoc_D ?_)
  | (go_at_call 55;(with_reducible refine(q_way M A n c ⟨fa.toArray⟩ ⟨fb.toArray⟩ _ Hz.out HW.out).mono ?_);rintro e w3 ⟨rfl,hb⟩;have K3:=Lib.hid (K2.out.on hb);have G3:=Lib.hid (below_step G2.out hb);clear hb K2 G2)
  | (refine at_load 27 (.tmp 3) (by rfl) ?_;refine wpListG_row (by rfl) 27 (.tmp 3) (by rfl) (w.heap.size+1) (by rfl) 27 #[.string ⟨fa.toArray⟩,.string ⟨fb.toArray⟩] _ (K3.out.row 1 rfl) Tryz.underlying27 (by rfl) infoc_D ?_)
  | (go_at_call 19;(with_reducible refine(q_field _ K3.out Ha.out Hb.out HL0.out HK0.out).mono ?_);rintro e w4 ⟨A0,c0,rfl,hb,hE,HA00⟩;have K4:=Lib.hid hE;have HA0:=Lib.hid HA00;have G4:=Lib.hid (below_step G3.out hb);clear hb hE HA00 K3 G3)
  | (refine at_load 9 (.tmp 52) (by rfl) ?_;refine wpListG_get (by rfl) 9 (.tmp 52) (by rfl) (w.heap.size+1) 1 (by rfl) 27 #[.string ⟨fa.toArray⟩,.string ⟨fb.toArray⟩] (.string ⟨fb.toArray⟩) _ (K4.out.row 1 rfl) (by rfl) Tryz.underlying9 (by rfl) ?_)
  | (go_at_call 16;(with_reducible refine(q_named _ K4.out Hb.out HL.out HE.out HK.out).mono ?_);rintro e w5 ⟨A1,c1,rfl,hb,hE,HA10⟩;have K5:=Lib.hid hE;have HA1:=Lib.hid HA10;have G5:=Lib.hid (below_step G4.out hb);clear hb hE HA10 K4 G4)
  | (refine at_load 24 (.tmp 2) (by rfl) ?_;refine wpListG_row (by rfl) 24 (.tmp 2) (by rfl) w.heap.size (by rfl) 24 #[.int .i64 M,.slice A n c] _ (K5.out.row 2 rfl) Tryz.underlying24 (by rfl) infoc_T ?_)
  | (refine at_load 3 (.tmp 60) (by rfl) ?_;refine wpListG_get (by rfl) 3 (.tmp 60) (by rfl) w.heap.size 0 (by rfl) 24 #[.int .i64 M,.slice A n c] (.int .i64 M) _ (K5.out.row 2 rfl) (by rfl) Tryz.underlying3 (by rfl) ?_)
  | (go_at_call 43;(with_reducible refine(q_resize (A:=A) (n:=n) (c:=c) (xs:=xs) _ K5.out (by simp[HA.out]) HN.out HF.out hres.out.1 hres.out.2.1 hres.out.2.2 Hxn.out).mono ?_);rintro e w6 ⟨A2,c2,rfl,hb,hE,HA20⟩;have K6:=Lib.hid hE;have HA2:=Lib.hid HA20;have G6:=Lib.hid (below_step G5.out hb);clear hb hE HA20 K5 G5;have K6b:=Lib.hid (K6.out.boxg 24 #[.int .i64 0,.slice none 0 0] w6.heap.size rfl);have hz6:w.heap.size≤w6.heap.size:=G6.out.size;have G6b:=Lib.hid (G6.out.alloc hz6 (.cells #[.int .i64 0,.slice none 0 0] 24));clear K6 G6)
  | (refine at_store 24 (.tmp 15) (.tmp 63) (by rfl) ?_;refine wpList_put (by rfl) 24 (.tmp 15) (.tmp 63) (by rfl) w6.heap.size 0 (.agg #[.int .i64 M,.slice A2 n c2]) (by rfl) (by rfl) 24 #[.int .i64 0,.slice none 0 0] #[.int .i64 M,.slice A2 n c2] (K6b.out.row 0 rfl) (by simp[Value.cells]) (by kernel_rfl) infoc_T (by kernel_rfl) ?_;intro w7 hrow hoth hz hbl;have K7:=Lib.hid (K6b.out.turn 0 rfl hrow hoth hz);have G7:=Lib.hid (hbl _ _ (by omega) G6b.out);clear hrow hoth hz hbl K6b G6b))
 refine qf15 (V1:=.slice A1 k c1) (A2:=A2) (m:=n) (c2:=c2) (M:=M) (iS:=0) (iR:=1) (B0:=w.heap.size) rfl rfl (by decide) (by omega) G7.out (fun w' hE9 hB9=>?_) K7.out
 have KE:=Lib.hid hE9
 have BE:=Lib.hid hB9
 clear hE9 hB9 K7 G7
 go_wp2
 have KS:=Lib.hid (KE.out.sub (fs':=bF A1 k L::fF A2 n xs::fs) (gs':=gs) (fun y hy=>by
  rcases List.mem_cons.1 hy with rfl | hy
  ·exact List.mem_cons_of_mem _ (List.mem_cons_self ..)
  rcases List.mem_cons.1 hy with rfl | hy
  ·exact List.mem_cons_self ..
  ·exact List.mem_cons_of_mem _ (List.mem_cons_of_mem _ (List.mem_cons_of_mem _ (hy)))) (List.Sublist.cons _ (List.Sublist.cons _ (List.Sublist.cons _ (List.Sublist.cons _ (List.Sublist.refl _))))))
 exact bodyPost_ret (res_tct rfl _ _ _ _ _ _ rfl (KE.out.row 1 rfl) Tryz.underlying24 rfl infoc_T) rfl ⟨A1,c1,A2,c2,rfl,BE.out,KS.out,HA1.out,HA2.out⟩
theorem q_Field_11{fs:List Fact}{gs:List Bx}{L:List UInt8}{k m:Nat}{X:List Fd}(M:Int)(A:Option Addr)(n c:Nat)(xs:List Fd)(fa fb:List UInt8)(w:World)(hV:EnvF w fs gs)(HA:Hid (fF A n xs∈fs))(HN:Hid (A=none→c=0))(HF1:Hid (full xs≤1000000))(hr:Hid (rightB M xs=true))(hres:Hid (resM M xs M=M∧resE M xs M=0∧resL M xs M=xs))(HF:Hid (full xs≤100000))(Hn:Hid (n≤1000000))(Hxn:Hid (xs.length=n))(Ha:Hid (fa.length≤10000))(Hb:Hid (fb.length≤10000))(HK:Hid (L.length=k))(i:Nat)(HI:Hid (findI xs ((⟨fa.toArray⟩,⟨fb.toArray⟩):Fd)=i))(HB:Hid (findB xs ((⟨fa.toArray⟩,⟨fb.toArray⟩):Fd)=false))(Hz:Hid (sz ((⟨fa.toArray⟩,⟨fb.toArray⟩):Fd)≤100000))(HW:Hid (wy M (⟨fa.toArray⟩,⟨fb.toArray⟩)=1)){L0:List UInt8}{k0:Nat}(HL0:Hid (fldL fa fb 1=L0))(HK0:Hid (L0.length=k0))(HL:Hid (nmL (i:Int) fb 1=L))(HE:Hid (nmE (i:Int) 1=0))(hi1:decide ((0:Int)<(i:Int))=true)(hi2:decide (0<i)=true)(H1:Hid (addM M xs=M))(H2:Hid (addE M xs=0))(H3:Hid (addL M xs (⟨fa.toArray⟩,⟨fb.toArray⟩)=X))(H4:Hid (X.length=m)) :
  Calls Tryz.prog 27 #[.agg #[.int .i64 M,.slice A n c],.agg #[.string ⟨fa.toArray⟩,.string ⟨fb.toArray⟩]] w fun e w'=>∃A1 c1 A2 c2,e = .returned (.tuple #[.slice A1 k c1,.agg #[.int .i64 M,.slice A2 m c2],.int .i64 0])∧Below w.heap.size w w'∧EnvF w' (bF A1 k L::fF A2 m X::fs) gs∧(k≤c1∧(A1=none→c1=0))∧(A2=none→c2=0):=by
 have K0:=Lib.hid ((((hV).boxg 24 #[.int .i64 M,.slice A n c] w.heap.size rfl).boxg 27 #[.string ⟨fa.toArray⟩,.string ⟨fb.toArray⟩] (w.heap.size+1) (by simp)).boxg 24 #[.int .i64 0,.slice none 0 0] (w.heap.size+1+1) (by simp))
 have G0:=Lib.hid ((((Below.refl w.heap.size w).alloc (Nat.le_refl _) (.cells #[.int .i64 M,.slice A n c] 24)).alloc (by simp;try omega) (.cells #[.string ⟨fa.toArray⟩,.string ⟨fb.toArray⟩] 27)).alloc (by simp;try omega) (.cells #[.int .i64 0,.slice none 0 0] 24))
 clear hV
 go_enter Tryz.func27,Tryz.ntmps27
 go_wp2_with (first
  | go_skip
  | (refine at_load 24 (.tmp 2) (by rfl) ?_;refine wpListG_row (by rfl) 24 (.tmp 2) (by rfl) w.heap.size (by rfl) 24 #[.int .i64 M,.slice A n c] _ (K0.out.row 2 rfl) Tryz.underlying24 (by rfl) infoc_T ?_)
  | (go_at_call 36;(with_reducible refine(q_right (A:=A) (n:=n) (xs:=xs) _ K0.out (by simp[HA.out]) HF1.out hr.out).mono ?_);rintro e w1 ⟨rfl,hb⟩;have K1:=Lib.hid (K0.out.on hb);have G1:=Lib.hid (below_step G0.out hb);clear hb K0 G0)
  | (refine at_load 24 (.tmp 2) (by rfl) ?_;refine wpListG_row (by rfl) 24 (.tmp 2) (by rfl) w.heap.size (by rfl) 24 #[.int .i64 M,.slice A n c] _ (K1.out.row 2 rfl) Tryz.underlying24 (by rfl) infoc_T ?_)
  | (refine at_load 27 (.tmp 3) (by rfl) ?_;refine wpListG_row (by rfl) 27 (.tmp 3) (by rfl) (w.heap.size+1) (by rfl) 27 #[.string ⟨fa.toArray⟩,.string ⟨fb.toArray⟩] _ (K1.out.row 1 rfl) Tryz.underlying27 (by rfl) infoc_D ?_)
  | (go_at_call 54;(with_reducible refine(q_find (A:=A) (n:=n) (xs:=xs) _ K1.out (by simp[HA.out]) Hn.out HI.out HB.out).mono ?_);rintro e w2 ⟨rfl,hb⟩;have K2:=Lib.hid (K1.out.on hb);have G2:=Lib.hid (below_step G1.out hb);clear hb K1 G1)
  | (refine at_load 24 (.tmp 2) (by rfl) ?_;refine wpListG_row (by rfl) 24 (.tmp 2) (by rfl) w.heap.size (by rfl) 24 #[.int .i64 M,.slice A n c] _ (K2.out.row 2 rfl) Tryz.underlying24 (by rfl) infoc_T ?_)
  | (refine at_load 27 (.tmp 3) (by rfl) ?_;refine wpListG_row (by rfl) 27 (.tmp 3) (by rfl) (w.heap.size+1) (by rfl) 27 #[.string ⟨fa.toArray⟩,.string ⟨fb.toArray⟩] _ (K2.out.row 1 rfl) Tryz.underlying27 (by rfl) infoc_D ?_)
  | (go_at_call 55;(with_reducible refine(q_way M A n c ⟨fa.toArray⟩ ⟨fb.toArray⟩ _ Hz.out HW.out).mono ?_);rintro e w3 ⟨rfl,hb⟩;have K3:=Lib.hid (K2.out.on hb);have G3:=Lib.hid (below_step G2.out hb);clear hb K2 G2)
  | (refine at_load 27 (.tmp 3) (by rfl) ?_;refine wpListG_row (by rfl) 27 (.tmp 3) (by rfl) (w.heap.size+1) (by rfl) 27 #[.string ⟨fa.toArray⟩,.string ⟨fb.toArray⟩] _ (K3.out.row 1 rfl) Tryz.underlying27 (by rfl) infoc_D ?_)
  | (go_at_call 19;(with_reducible refine(q_field _ K3.out Ha.out Hb.out HL0.out HK0.out).mono ?_);rintro e w4 ⟨A0,c0,rfl,hb,hE,HA00⟩;have K4:=Lib.hid hE;have HA0:=Lib.hid HA00;have G4:=Lib.hid (below_step G3.out hb);clear hb hE HA00 K3 G3)
  | (refine at_load 9 (.tmp 52) (by rfl) ?_;refine wpListG_get (by rfl) 9 (.tmp 52) (by rfl) (w.heap.size+1) 1 (by rfl) 27 #[.string ⟨fa.toArray⟩,.string ⟨fb.toArray⟩] (.string ⟨fb.toArray⟩) _ (K4.out.row 1 rfl) (by rfl) Tryz.underlying9 (by rfl) ?_)
  | (go_at_call 16;(with_reducible refine(q_named _ K4.out Hb.out HL.out HE.out HK.out).mono ?_);rintro e w5 ⟨A1,c1,rfl,hb,hE,HA10⟩;have K5:=Lib.hid hE;have HA1:=Lib.hid HA10;have G5:=Lib.hid (below_step G4.out hb);clear hb hE HA10 K4 G4)
  | (refine at_load 24 (.tmp 2) (by rfl) ?_;refine wpListG_row (by rfl) 24 (.tmp 2) (by rfl) w.heap.size (by rfl) 24 #[.int .i64 M,.slice A n c] _ (K5.out.row 2 rfl) Tryz.underlying24 (by rfl) infoc_T ?_)
  | (refine at_load 3 (.tmp 60) (by rfl) ?_;refine wpListG_get (by rfl) 3 (.tmp 60) (by rfl) w.heap.size 0 (by rfl) 24 #[.int .i64 M,.slice A n c] (.int .i64 M) _ (K5.out.row 2 rfl) (by rfl) Tryz.underlying3 (by rfl) ?_)
  | (go_at_call 43;(with_reducible refine(q_resize (A:=A) (n:=n) (c:=c) (xs:=xs) _ K5.out (by simp[HA.out]) HN.out HF.out hres.out.1 hres.out.2.1 hres.out.2.2 Hxn.out).mono ?_);rintro e w6 ⟨A2,c2,rfl,hb,hE,HA20⟩;have K6:=Lib.hid hE;have HA2:=Lib.hid HA20;have G6:=Lib.hid (below_step G5.out hb);clear hb hE HA20 K5 G5;have K6b:=Lib.hid (K6.out.boxg 24 #[.int .i64 0,.slice none 0 0] w6.heap.size rfl);have hz6:w.heap.size≤w6.heap.size:=G6.out.size;have G6b:=Lib.hid (G6.out.alloc hz6 (.cells #[.int .i64 0,.slice none 0 0] 24));clear K6 G6)
  | (refine at_store 24 (.tmp 15) (.tmp 63) (by rfl) ?_;refine wpList_put (by rfl) 24 (.tmp 15) (.tmp 63) (by rfl) w6.heap.size 0 (.agg #[.int .i64 M,.slice A2 n c2]) (by rfl) (by rfl) 24 #[.int .i64 0,.slice none 0 0] #[.int .i64 M,.slice A2 n c2] (K6b.out.row 0 rfl) (by simp[Value.cells]) (by kernel_rfl) infoc_T (by kernel_rfl) ?_;intro w7 hrow hoth hz hbl;have K7:=Lib.hid (K6b.out.turn 0 rfl hrow hoth hz);have G7:=Lib.hid (hbl _ _ (by omega) G6b.out);clear hrow hoth hz hbl K6b G6b)
  | (refine at_load 24 (.tmp 2) (by rfl) ?_;refine wpListG_row (by rfl) 24 (.tmp 2) (by rfl) w.heap.size (by rfl) 24 #[.int .i64 M,.slice A n c] _ (K7.out.row 3 rfl) Tryz.underlying24 (by rfl) infoc_T ?_)
  | (refine at_load 27 (.tmp 3) (by rfl) ?_;refine wpListG_row (by rfl) 27 (.tmp 3) (by rfl) (w.heap.size+1) (by rfl) 27 #[.string ⟨fa.toArray⟩,.string ⟨fb.toArray⟩] _ (K7.out.row 2 rfl) Tryz.underlying27 (by rfl) infoc_D ?_)
  | (go_at_call 56;(with_reducible refine(q_add (A:=A) (n:=n) (c:=c) (xs:=xs) _ K7.out (by simp[HA.out]) HN.out HF.out Hz.out H1.out H2.out H3.out H4.out).mono ?_);rintro e w8 ⟨A3,c3,rfl,hb,hE,HA30⟩;have K8:=Lib.hid hE;have HA3:=Lib.hid HA30;have G8:=Lib.hid (below_step G7.out hb);clear hb hE HA30 K7 G7)
  | (refine at_store 24 (.tmp 15) (.tmp 71) (by rfl) ?_;refine wpList_put (by rfl) 24 (.tmp 15) (.tmp 71) (by rfl) w6.heap.size 0 (.agg #[.int .i64 M,.slice A3 m c3]) (by rfl) (by rfl) 24 #[.int .i64 M,.slice A2 n c2] #[.int .i64 M,.slice A3 m c3] (K8.out.row 0 rfl) (by simp[Value.cells]) (by kernel_rfl) infoc_T (by kernel_rfl) ?_;intro w9 hrow hoth hz hbl;have K9:=Lib.hid (K8.out.turn 0 rfl hrow hoth hz);have G9:=Lib.hid (hbl _ _ (by omega) G8.out);clear hrow hoth hz hbl K8 G8))
 refine qf15 (V1:=.slice A1 k c1) (A2:=A3) (m:=m) (c2:=c3) (M:=M) (iS:=0) (iR:=1) (B0:=w.heap.size) rfl rfl (by decide) (by omega) G9.out (fun w' hE9 hB9=>?_) K9.out
 have KE:=Lib.hid hE9
 have BE:=Lib.hid hB9
 clear hE9 hB9 K9 G9
 go_wp2
 have KS:=Lib.hid (KE.out.sub (fs':=bF A1 k L::fF A3 m X::fs) (gs':=gs) (fun y hy=>by
  rcases List.mem_cons.1 hy with rfl | hy
  ·exact List.mem_cons_of_mem _ (List.mem_cons_of_mem _ (List.mem_cons_self ..))
  rcases List.mem_cons.1 hy with rfl | hy
  ·exact List.mem_cons_self ..
  ·exact List.mem_cons_of_mem _ (List.mem_cons_of_mem _ (List.mem_cons_of_mem _ (List.mem_cons_of_mem _ (hy))))) (List.Sublist.cons _ (List.Sublist.cons _ (List.Sublist.cons _ (List.Sublist.cons _ (List.Sublist.refl _))))))
 exact bodyPost_ret (res_tct rfl _ _ _ _ _ _ rfl (KE.out.row 1 rfl) Tryz.underlying24 rfl infoc_T) rfl ⟨A1,c1,A3,c3,rfl,BE.out,KS.out,HA1.out,HA3.out⟩
theorem q_Field{fs:List Fact}{gs:List Bx}{L:List UInt8}{k m:Nat}{X:List Fd}{M:Int}{A:Option Addr}{n c:Nat}{xs:List Fd}(a b:ByteArray)(w:World)(hV:EnvF w fs gs)(hA:fF A n xs∈fs)(hN:A=none→c=0)(hr:rightB M xs=true)(hz:sz ((a,b):Fd)≤7000)(hL:fB M xs (a,b)=L)(hX:fX M xs (a,b)=X)(hk:L.length=k)(hm:X.length=m) :
  Calls Tryz.prog 27 #[.agg #[.int .i64 M,.slice A n c],.agg #[.string a,.string b]] w fun e w'=>∃A1 c1 A2 c2,e = .returned (.tuple #[.slice A1 k c1,.agg #[.int .i64 M,.slice A2 m c2],.int .i64 0])∧Below w.heap.size w w'∧EnvF w' (bF A1 k L::fF A2 m X::fs) gs∧(k≤c1∧(A1=none→c1=0))∧(A2=none→c2=0):=by
 obtain⟨fa,fb,e⟩:=fd_form (a,b)
 cases e
 obtain⟨h0,h1,h2⟩:=okB_of hr
 have hln:=full_len xs
 have hi:=findI_le xs (⟨fa.toArray⟩,⟨fb.toArray⟩)
 have hnl:=(hV.fs hA).1
 have hzz:=la_sz ((⟨fa.toArray⟩,⟨fb.toArray⟩):Fd)
 rw[la_of,lb_of] at hzz
 have ha:Hid (fa.length≤10000):=Lib.hid (by omega)
 have hb:Hid (fb.length≤10000):=Lib.hid (by omega)
 have q1:Hid (n≤1000000):=Lib.hid (by omega)
 have q2:Hid (full xs≤100000):=Lib.hid (by omega)
 have q3:Hid (full xs≤1000000):=Lib.hid (by omega)
 have q4:Hid (sz ((⟨fa.toArray⟩,⟨fb.toArray⟩):Fd)≤100000):=Lib.hid (by omega)
 by_cases hf:findB xs (⟨fa.toArray⟩,⟨fb.toArray⟩)=true
 ·unfold fB at hL
  unfold fX at hX
  rw[if_pos hf] at hL hX
  exact q_Field_w M A n c xs fa fb w hV (Lib.hid hA) (Lib.hid hN) q3 (Lib.hid hr) (Lib.hid (res_same hr)) q2 q1 (Lib.hid hnl) ha hb (Lib.hid hk) _ (Lib.hid rfl) (Lib.hid hf) (Lib.hid hL) (Lib.hid (putE_small (by omega) (by omega))) (by rw[←hm,←hX];exact hnl.symm) hX
 ·unfold fB Pk.oL at hL
  unfold fX at hX
  rw[if_neg hf] at hL hX
  rw[la_of,lb_of] at hL
  have hf':findB xs (⟨fa.toArray⟩,⟨fb.toArray⟩)=false:=by simpa using hf
  by_cases hw:wy M (⟨fa.toArray⟩,⟨fb.toArray⟩)=1
  ·rw[if_pos hw] at hX
   rw[hw] at hL
   by_cases h:findI xs (⟨fa.toArray⟩,⟨fb.toArray⟩)=0
   ·rw[if_pos h] at hL
    exact q_Field_01 M A n c xs fa fb w hV (Lib.hid hA) (Lib.hid hN) q3 (Lib.hid hr) (Lib.hid (res_same hr)) q2 q1 (Lib.hid hnl) ha hb (Lib.hid hk) _ (Lib.hid rfl) (Lib.hid hf') q4 (Lib.hid hw) (Lib.hid hL) (decide_eq_false (by omega)) (decide_eq_false (by omega)) (Lib.hid (if_pos hr)) (Lib.hid (if_pos hr)) (Lib.hid ((if_pos hr).trans hX)) (Lib.hid hm)
   ·rw[if_neg h] at hL
    exact q_Field_11 M A n c xs fa fb w hV (Lib.hid hA) (Lib.hid hN) q3 (Lib.hid hr) (Lib.hid (res_same hr)) q2 q1 (Lib.hid hnl) ha hb (Lib.hid hk) _ (Lib.hid rfl) (Lib.hid hf') q4 (Lib.hid hw) (Lib.hid rfl) (Lib.hid rfl) (Lib.hid hL) (Lib.hid (nmE_small h (by omega))) (decide_eq_true (by omega)) (decide_eq_true (by omega)) (Lib.hid (if_pos hr)) (Lib.hid (if_pos hr)) (Lib.hid ((if_pos hr).trans hX)) (Lib.hid hm)
  ·rw[if_neg hw] at hX
   by_cases h:findI xs (⟨fa.toArray⟩,⟨fb.toArray⟩)=0
   ·rw[if_pos h] at hL
    exact q_Field_00 M A n c xs fa fb w hV (Lib.hid hA) (Lib.hid hN) q3 (Lib.hid hr) (Lib.hid (res_same hr)) q2 q1 (Lib.hid hnl) ha hb (Lib.hid hk) _ (Lib.hid rfl) (Lib.hid hf') q4 (Lib.hid rfl) (Lib.hid hL) (decide_eq_false (by omega)) (decide_eq_false (by omega)) (by rw[beq_eq_false_iff_ne];exact hw) (by rw[←hm,←hX];exact hnl.symm) hX
   ·rw[if_neg h] at hL
    exact q_Field_10 M A n c xs fa fb w hV (Lib.hid hA) (Lib.hid hN) q3 (Lib.hid hr) (Lib.hid (res_same hr)) q2 q1 (Lib.hid hnl) ha hb (Lib.hid hk) _ (Lib.hid rfl) (Lib.hid hf') q4 (Lib.hid rfl) (Lib.hid rfl) (Lib.hid rfl) (Lib.hid hL) (Lib.hid (nmE_small h (by omega))) (decide_eq_true (by omega)) (decide_eq_true (by omega)) (by rw[beq_eq_false_iff_ne];exact hw) (by rw[←hm,←hX];exact hnl.symm) hX
end Go.Proofs.YtahiajeggbpogaaGreatDoor
