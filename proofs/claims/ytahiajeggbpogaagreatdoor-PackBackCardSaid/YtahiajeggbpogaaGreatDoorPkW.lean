import Derived.Test.YtahiajeggbpogaaGreatDoorPkS
set_option maxRecDepth 100000
set_option maxHeartbeats 8000000
namespace Go.Proofs.YtahiajeggbpogaaGreatDoor
open Go.RowKit Go.Shelf Px Tx Tb Up Pk
set_option linter.unusedVariables false
set_option linter.unusedSimpArgs false
attribute [local go_sem] Oper.semAt_some
section
variable {fs:List Fact}{gs:List Bx}
theorem p_bsame{A A':Option Addr}{n n' c c':Nat}{xs ys:List UInt8}{b:Bool}(w:World)(hV:EnvF w fs gs)(hA:bF A n xs∈fs)(hA':bF A' n' ys∈fs)(hb:(xs==ys)=b) :
  Calls Tryz.prog 28 #[.slice A n c,.slice A' n' c'] w fun e w'=>e = .returned (.bool b)∧Below w.heap.size w w':=by
 subst hb
 have h1:=conv_bytes (c:=c) (hV.bs hA)
 have h2:=conv_bytes (c:=c') (hV.bs hA')
 clear hV hA hA'
 go_enter Tryz.func28,Tryz.ntmps28
 go_wp2
 go_ret
 exact⟨rfl,Below.refl _ _⟩
theorem p_tsame{M M':Int}{A A':Option Addr}{n n' c c':Nat}{xs ys:List Fd}{b:Bool}(w:World)(hV:EnvF w fs gs)(hA:fF A n xs∈fs)(hA':fF A' n' ys∈fs)(hn:n≤1000000)(h:sameB M xs M' ys=b) :
  Calls Tryz.prog 29 #[.agg #[.int .i64 M,.slice A n c],.agg #[.int .i64 M',.slice A' n' c']] w fun e w'=>e = .returned (.bool b)∧Below w.heap.size w w':=
 h ▸ r_same M M' A A' n n' c c' xs ys w (hV.fs hA) (hV.fs hA') hn
end
namespace Pk
abbrev sa:Fd:=(⟨#[97]⟩,⟨#[49]⟩)
abbrev sm:Fd:=(⟨#[58,109,101,116,104,111,100]⟩,⟨#[71,69,84]⟩)
abbrev sk:Fd:=(⟨#[99,111,111,107,105,101]⟩,⟨#[49]⟩)
theorem be_1:beB [49]=[1,49]:=by unfold beB;rw[if_neg (by decide +kernel)];decide +kernel
theorem be_a:beB [97]=[1,97]:=by unfold beB;rw[if_neg (by decide +kernel)];decide +kernel
theorem w_1:fB 100 [] sm=[129]∧fX 100 [] sm=[]:=by
 refine⟨?_,by decide +kernel⟩
 unfold fB
 rw[if_pos (by decide +kernel)]
 decide +kernel
theorem la_sa:la sa=[97]∧lb sa=[49]∧lb sk=[49]:=by decide +kernel
theorem w_2:fB 100 [] sa=[64,1,97,1,49]∧fX 100 [] sa=[sa]:=by
 refine⟨?_,by decide +kernel⟩
 unfold fB oL fldL
 rw[if_neg (by decide +kernel),if_pos (by decide +kernel),la_sa.1,la_sa.2.1,be_a,be_1]
 decide +kernel
theorem w_3:fB 100 [sa] sa=[149]∧fX 100 [sa] sa=[sa]:=by
 refine⟨?_,by decide +kernel⟩
 unfold fB
 rw[if_pos (by decide +kernel)]
 decide +kernel
theorem w_4:fB 100 [] sk=[29,1,49]∧fX 100 [] sk=[]:=by
 refine⟨?_,by decide +kernel⟩
 unfold fB oL nmL
 rw[if_neg (by decide +kernel),if_neg (by decide +kernel),la_sa.2.2,be_1]
 decide +kernel
theorem w_5:fB 0 [] sa=[0,1,97,1,49]∧fX 0 [] sa=[]:=by
 refine⟨?_,by decide +kernel⟩
 unfold fB oL fldL
 rw[if_neg (by decide +kernel),if_pos (by decide +kernel),la_sa.1,la_sa.2.1,be_a,be_1]
 decide +kernel
theorem w_blk:kB 100 [] [sm,sa,sa]=[129,64,1,97,1,49,149]∧kX 100 [] [sm,sa,sa]=[sa]:=by
 unfold kB kX kB kX kB kX kB kX
 rw[w_1.1,w_1.2,w_2.1,w_2.2,w_3.1,w_3.2]
 exact⟨rfl,rfl⟩
theorem w_szd:putL 0 (5:Nat) 32++kB 0 (keep 0 [sa]) [sa]=[32,0,1,97,1,49]∧kX 0 (keep 0 [sa]) [sa]=[]:=by
 have e:keep 0 [sa]=[]:=by decide +kernel
 rw[e]
 unfold kB kX kB kX
 rw[w_5.1,w_5.2]
 exact⟨by decide +kernel,rfl⟩
end Pk
theorem wakes11{fs:List Fact}{gs:List Bx}(w:World)(hV:EnvF w fs gs)(hS:stF∈fs)(hR:rwF∈fs)(hM:mvF∈fs) :
  Calls Tryz.prog 25 #[] w fun e w'=>e = .returned (.bool true)∧Below w.heap.size w w':=by
 have K0:=Lib.hid (((hV.fact (x:=fF none 0 []) Fs.none_ (fun k hk=>absurd hk.1 (by omega))).boxg 24 #[.int .i64 100,.slice none 0 0] w.heap.size rfl).boxg 27 #[.string ⟨#[97]⟩,.string ⟨#[49]⟩] (w.heap.size+1) (by simp))
 have G0:=Lib.hid (((Below.refl w.heap.size w).alloc (Nat.le_refl _) (.cells #[.int .i64 100,.slice none 0 0] 24)).alloc (by simp;try omega) (.cells #[.string ⟨#[97]⟩,.string ⟨#[49]⟩] 27))
 obtain⟨W0,hW0⟩ : ∃W0,((w.alloc (.cells #[.int .i64 100,.slice none 0 0] 24)).alloc (.cells #[.string ⟨#[97]⟩,.string ⟨#[49]⟩] 27))=W0:=⟨_,rfl⟩
 have hW1:W0.heap.size=w.heap.size+1+1:=by rw[←hW0];simp
 rw[hW0] at K0 G0
 have SC1:Hid (∀W:World,Calls Tryz.prog 34 #[.agg #[.string ⟨#[99,111,111,107,105,101]⟩,.string ⟨#[]⟩]] W fun e w'=>e = .returned (.bool true)∧Below W.heap.size W w'):=Lib.hid fun W=>(by have h:=c_Secret ⟨#[99,111,111,107,105,101]⟩ ⟨#[]⟩ W;rwa [show secB ((⟨#[99,111,111,107,105,101]⟩,⟨#[]⟩):Fd)=true by decide +kernel] at h)
 have SC2:Hid (∀W:World,Calls Tryz.prog 34 #[.agg #[.string ⟨#[97]⟩,.string ⟨#[49]⟩]] W fun e w'=>e = .returned (.bool false)∧Below W.heap.size W w'):=Lib.hid fun W=>(by have h:=c_Secret ⟨#[97]⟩ ⟨#[49]⟩ W;rwa [show secB sa=false by decide +kernel] at h)
 have HS:=Lib.hid hS
 have HR:=Lib.hid hR
 have HM:=Lib.hid hM
 clear hV hS hR hM
 go_enter Tryz.func25,Tryz.ntmps25
 go_wp2_with (first
  | go_skip
  | (refine at_load 24 (.tmp 1) (by rfl) ?_;refine wpListG_row (by rfl) 24 (.tmp 1) (by rfl) w.heap.size (by rfl) 24 #[.int .i64 100,.slice none 0 0] _ (K0.out.row 1 rfl) Tryz.underlying24 (by rfl) infoc_T ?_)
  | (refine at_load 27 (.tmp 2) (by rfl) ?_;refine wpListG_row (by rfl) 27 (.tmp 2) (by rfl) (w.heap.size+1) (by rfl) 27 #[.string ⟨#[97]⟩,.string ⟨#[49]⟩] _ (K0.out.row 0 rfl) Tryz.underlying27 (by rfl) infoc_D ?_)
  | (go_at_call 30;(try rw[hW0]);have K0l0:=Lib.hid (K0.out.litf 27 [sm,sa,sa] #[.string ⟨#[58,109,101,116,104,111,100]⟩,.string ⟨#[71,69,84]⟩,.string ⟨#[97]⟩,.string ⟨#[49]⟩,.string ⟨#[97]⟩,.string ⟨#[49]⟩] (by simp[fdc]) 3 rfl (w.heap.size+1+1) hW1);have G0l0:=Lib.hid (G0.out.alloc (Nat.le_trans G0.out.size (Nat.le_refl _)) (.cells #[.string ⟨#[58,109,101,116,104,111,100]⟩,.string ⟨#[71,69,84]⟩,.string ⟨#[97]⟩,.string ⟨#[49]⟩,.string ⟨#[97]⟩,.string ⟨#[49]⟩] 27));clear K0 G0;(with_reducible refine(p_Block (A:=none) (n:=0) (c:=0) (xs:=[]) (ls:=[sm,sa,sa]) (L:=[129,64,1,97,1,49,149]) (Y:=[sa]) (some ⟨w.heap.size+1+1,0,none⟩) 3 3 _ K0l0.out (by simp) (fun _=>rfl) (by simp[HS.out]) (by simp[HR.out]) (by simp[HM.out]) (by simp) (by decide +kernel) (by decide +kernel) w_blk.1 w_blk.2 (k:=7) rfl (q:=1) rfl).mono ?_);rintro e w1 ⟨A1,c1,A2,c2,rfl,hb,hE,HA10⟩;have K1:=Lib.hid hE;have HA1:=Lib.hid HA10;have G1:=Lib.hid (below_step G0l0.out hb);clear hb hE HA10 K0l0 G0l0;have K1b:=Lib.hid (K1.out.boxg 24 #[.int .i64 0,.slice none 0 0] w1.heap.size rfl);have hz1:w.heap.size≤w1.heap.size:=G1.out.size;have G1b:=Lib.hid (G1.out.alloc hz1 (.cells #[.int .i64 0,.slice none 0 0] 24));clear K1 G1)
  | (refine at_store 24 (.tmp 4) (.tmp 25) (by rfl) ?_;refine wpList_put (by rfl) 24 (.tmp 4) (.tmp 25) (by rfl) w1.heap.size 0 (.agg #[.int .i64 100,.slice A2 1 c2]) (by rfl) (by rfl) 24 #[.int .i64 0,.slice none 0 0] #[.int .i64 100,.slice A2 1 c2] (K1b.out.row 0 rfl) (by simp[Value.cells]) (by kernel_rfl) infoc_T (by kernel_rfl) ?_;intro w2 hrow hoth hz hbl;have K2:=Lib.hid (K1b.out.turn 0 rfl hrow hoth hz);have G2:=Lib.hid (hbl _ _ (by omega) G1b.out);clear hrow hoth hz hbl K1b G1b)
  | (refine at_load 24 (.tmp 1) (by rfl) ?_;refine wpListG_row (by rfl) 24 (.tmp 1) (by rfl) w.heap.size (by rfl) 24 #[.int .i64 100,.slice none 0 0] _ (K2.out.row 2 rfl) Tryz.underlying24 (by rfl) infoc_T ?_)
  | (go_at_call 26;(with_reducible refine(p_Field (A:=none) (n:=0) (c:=0) (xs:=[]) (L:=[29,1,49]) (Y:=[]) sk.1 sk.2 _ K2.out (by simp) (fun _=>rfl) (by simp[HS.out]) (by simp[HR.out]) (by simp[HM.out]) (by decide +kernel) (by decide +kernel) w_4.1 w_4.2 (k:=3) rfl (q:=0) rfl).mono ?_);rintro e w3 ⟨A3,c3,A4,c4,rfl,hb,hE,HA30⟩;have K3:=Lib.hid hE;have HA3:=Lib.hid HA30;have G3:=Lib.hid (below_step G2.out hb);clear hb hE HA30 K2 G2;have K3b:=Lib.hid (K3.out.boxg 24 #[.int .i64 0,.slice none 0 0] w3.heap.size rfl);have hz3:w.heap.size≤w3.heap.size:=G3.out.size;have G3b:=Lib.hid (G3.out.alloc hz3 (.cells #[.int .i64 0,.slice none 0 0] 24));clear K3 G3)
  | (refine at_store 24 (.tmp 7) (.tmp 32) (by rfl) ?_;refine wpList_put (by rfl) 24 (.tmp 7) (.tmp 32) (by rfl) w3.heap.size 0 (.agg #[.int .i64 100,.slice A4 0 c4]) (by rfl) (by rfl) 24 #[.int .i64 0,.slice none 0 0] #[.int .i64 100,.slice A4 0 c4] (K3b.out.row 0 rfl) (by simp[Value.cells]) (by kernel_rfl) infoc_T (by kernel_rfl) ?_;intro w4 hrow hoth hz hbl;have K4:=Lib.hid (K3b.out.turn 0 rfl hrow hoth hz);have G4:=Lib.hid (hbl _ _ (by omega) G3b.out);clear hrow hoth hz hbl K3b G3b)
  | (go_at_call 30;(with_reducible refine(p_Block_no (M:=-1) (A:=none) (n:=0) (c:=0) (xs:=[]) none 0 0 _ K4.out (by simp) (fun _=>rfl) (by decide) (by decide)).mono ?_);rintro e w5 ⟨rfl,hb⟩;have K5:=Lib.hid (K4.out.on hb);have G5:=Lib.hid (below_step G4.out hb);clear hb K4 G4;have K5b:=Lib.hid (K5.out.boxg 24 #[.int .i64 0,.slice none 0 0] w5.heap.size rfl);have hz5:w.heap.size≤w5.heap.size:=G5.out.size;have G5b:=Lib.hid (G5.out.alloc hz5 (.cells #[.int .i64 0,.slice none 0 0] 24));clear K5 G5)
  | (refine at_store 24 (.tmp 10) (.tmp 38) (by rfl) ?_;refine wpList_put (by rfl) 24 (.tmp 10) (.tmp 38) (by rfl) w5.heap.size 0 (.agg #[.int .i64 0,.slice none 0 0]) (by rfl) (by rfl) 24 #[.int .i64 0,.slice none 0 0] #[.int .i64 0,.slice none 0 0] (K5b.out.row 0 rfl) (by simp[Value.cells]) (by kernel_rfl) infoc_T (by kernel_rfl) ?_;intro w6 hrow hoth hz hbl;have K6:=Lib.hid (K5b.out.turn 0 rfl hrow hoth hz);have G6:=Lib.hid (hbl _ _ (by omega) G5b.out);clear hrow hoth hz hbl K5b G5b)
  | (refine at_load 24 (.tmp 4) (by rfl) ?_;refine wpListG_row (by rfl) 24 (.tmp 4) (by rfl) w1.heap.size (by rfl) 24 #[.int .i64 100,.slice A2 1 c2] _ (K6.out.row 2 rfl) Tryz.underlying24 (by rfl) infoc_T ?_)
  | (refine at_load 27 (.tmp 2) (by rfl) ?_;refine wpListG_row (by rfl) 27 (.tmp 2) (by rfl) (w.heap.size+1) (by rfl) 27 #[.string ⟨#[97]⟩,.string ⟨#[49]⟩] _ (K6.out.row 3 rfl) Tryz.underlying27 (by rfl) infoc_D ?_)
  | (go_at_call 32;have K6l0:=Lib.hid (K6.out.litf 27 [sa] #[.string ⟨#[97]⟩,.string ⟨#[49]⟩] (by simp[fdc]) 1 rfl w6.heap.size rfl);have G6l0:=Lib.hid (G6.out.alloc (Nat.le_trans G6.out.size (Nat.le_refl _)) (.cells #[.string ⟨#[97]⟩,.string ⟨#[49]⟩] 27));clear K6 G6;(with_reducible refine(p_Sized (A:=A2) (n:=1) (c:=c2) (xs:=[sa]) (ls:=[sa]) (L:=[32,0,1,97,1,49]) (Y:=[]) (some ⟨w6.heap.size,0,none⟩) 1 1 _ K6l0.out (by simp) HA1.out.2 (by simp[HS.out]) (by simp[HR.out]) (by simp[HM.out]) (by simp) (by decide +kernel) (by decide) (by decide) (by decide +kernel) w_szd.1 w_szd.2 (k:=6) rfl (q:=0) rfl).mono ?_);rintro e w7 ⟨A5,c5,A6,c6,rfl,hb,hE,HA50⟩;have K7:=Lib.hid hE;have HA5:=Lib.hid HA50;have G7:=Lib.hid (below_step G6l0.out hb);clear hb hE HA50 K6l0 G6l0;have K7b:=Lib.hid (K7.out.boxg 24 #[.int .i64 0,.slice none 0 0] w7.heap.size rfl);have hz7:w.heap.size≤w7.heap.size:=G7.out.size;have G7b:=Lib.hid (G7.out.alloc hz7 (.cells #[.int .i64 0,.slice none 0 0] 24));clear K7 G7)
  | (refine at_store 24 (.tmp 13) (.tmp 46) (by rfl) ?_;refine wpList_put (by rfl) 24 (.tmp 13) (.tmp 46) (by rfl) w7.heap.size 0 (.agg #[.int .i64 0,.slice A6 0 c6]) (by rfl) (by rfl) 24 #[.int .i64 0,.slice none 0 0] #[.int .i64 0,.slice A6 0 c6] (K7b.out.row 0 rfl) (by simp[Value.cells]) (by kernel_rfl) infoc_T (by kernel_rfl) ?_;intro w8 hrow hoth hz hbl;have K8:=Lib.hid (K7b.out.turn 0 rfl hrow hoth hz);have G8:=Lib.hid (hbl _ _ (by omega) G7b.out);clear hrow hoth hz hbl K7b G7b)
  | (go_at_call 28;have K8l0:=Lib.hid (K8.out.litg 5 [129,64,1,97,1,49,149] #[.int .u8 129,.int .u8 64,.int .u8 1,.int .u8 97,.int .u8 1,.int .u8 49,.int .u8 149] (by rfl) 7 rfl w8.heap.size rfl);have G8l0:=Lib.hid (G8.out.alloc (Nat.le_trans G8.out.size (Nat.le_refl _)) (.cells #[.int .u8 129,.int .u8 64,.int .u8 1,.int .u8 97,.int .u8 1,.int .u8 49,.int .u8 149] 5));clear K8 G8;(with_reducible refine(p_bsame (A:=A1) (n:=7) (n':=7) (xs:=[129,64,1,97,1,49,149]) (ys:=[129,64,1,97,1,49,149]) (b:=true) _ K8l0.out (by simp) (by simp) (by decide)).mono ?_);rintro e w9 ⟨rfl,hb⟩;have K9:=Lib.hid (K8l0.out.on hb);have G9:=Lib.hid (below_step G8l0.out hb);clear hb K8l0 G8l0)
  | (refine at_load 24 (.tmp 4) (by rfl) ?_;refine wpListG_row (by rfl) 24 (.tmp 4) (by rfl) w1.heap.size (by rfl) 24 #[.int .i64 100,.slice A2 1 c2] _ (K9.out.row 3 rfl) Tryz.underlying24 (by rfl) infoc_T ?_)
  | (refine at_load 27 (.tmp 2) (by rfl) ?_;refine wpListG_row (by rfl) 27 (.tmp 2) (by rfl) (w.heap.size+1) (by rfl) 27 #[.string ⟨#[97]⟩,.string ⟨#[49]⟩] _ (K9.out.row 4 rfl) Tryz.underlying27 (by rfl) infoc_D ?_)
  | (go_at_call 29;have K9l0:=Lib.hid (K9.out.litf 27 [sa] #[.string ⟨#[97]⟩,.string ⟨#[49]⟩] (by simp[fdc]) 1 rfl w9.heap.size rfl);have G9l0:=Lib.hid (G9.out.alloc (Nat.le_trans G9.out.size (Nat.le_refl _)) (.cells #[.string ⟨#[97]⟩,.string ⟨#[49]⟩] 27));clear K9 G9;(with_reducible refine(p_tsame (A:=A2) (A':=some ⟨w9.heap.size,0,none⟩) (n:=1) (n':=1) (xs:=[sa]) (ys:=[sa]) (b:=true) _ K9l0.out (by simp) (by simp) (by decide) (by decide +kernel)).mono ?_);rintro e w10 ⟨rfl,hb⟩;have K10:=Lib.hid (K9l0.out.on hb);have G10:=Lib.hid (below_step G9l0.out hb);clear hb K9l0 G9l0)
  | (go_at_call 28;have K10l0:=Lib.hid (K10.out.litg 5 [29,1,49] #[.int .u8 29,.int .u8 1,.int .u8 49] (by rfl) 3 rfl w10.heap.size rfl);have G10l0:=Lib.hid (G10.out.alloc (Nat.le_trans G10.out.size (Nat.le_refl _)) (.cells #[.int .u8 29,.int .u8 1,.int .u8 49] 5));clear K10 G10;(with_reducible refine(p_bsame (A:=A3) (n:=3) (n':=3) (xs:=[29,1,49]) (ys:=[29,1,49]) (b:=true) _ K10l0.out (by simp) (by simp) (by decide)).mono ?_);rintro e w11 ⟨rfl,hb⟩;have K11:=Lib.hid (K10l0.out.on hb);have G11:=Lib.hid (below_step G10l0.out hb);clear hb K10l0 G10l0)
  | (refine at_load 22 (.tmp 68) (by rfl) ?_;refine wpListG_get (by rfl) 22 (.tmp 68) (by rfl) w3.heap.size 1 (by rfl) 24 #[.int .i64 100,.slice A4 0 c4] (.slice A4 0 c4) _ (K11.out.row 2 rfl) (by rfl) Tryz.underlying22 (by rfl) ?_)
  | (go_at_call 28;have K11l0:=Lib.hid (K11.out.litg 5 [32,0,1,97,1,49] #[.int .u8 32,.int .u8 0,.int .u8 1,.int .u8 97,.int .u8 1,.int .u8 49] (by rfl) 6 rfl w11.heap.size rfl);have G11l0:=Lib.hid (G11.out.alloc (Nat.le_trans G11.out.size (Nat.le_refl _)) (.cells #[.int .u8 32,.int .u8 0,.int .u8 1,.int .u8 97,.int .u8 1,.int .u8 49] 5));clear K11 G11;(with_reducible refine(p_bsame (A:=A5) (n:=6) (n':=6) (xs:=[32,0,1,97,1,49]) (ys:=[32,0,1,97,1,49]) (b:=true) _ K11l0.out (by simp) (by simp) (by decide)).mono ?_);rintro e w12 ⟨rfl,hb⟩;have K12:=Lib.hid (K11l0.out.on hb);have G12:=Lib.hid (below_step G11l0.out hb);clear hb K11l0 G11l0)
  | (refine at_load 22 (.tmp 87) (by rfl) ?_;refine wpListG_get (by rfl) 22 (.tmp 87) (by rfl) w7.heap.size 1 (by rfl) 24 #[.int .i64 0,.slice A6 0 c6] (.slice A6 0 c6) _ (K12.out.row 0 rfl) (by rfl) Tryz.underlying22 (by rfl) ?_)
  | (refine at_load 3 (.tmp 93) (by rfl) ?_;refine wpListG_get (by rfl) 3 (.tmp 93) (by rfl) w7.heap.size 0 (by rfl) 24 #[.int .i64 0,.slice A6 0 c6] (.int .i64 0) _ (K12.out.row 0 rfl) (by rfl) Tryz.underlying3 (by rfl) ?_)
  | (go_at_call 34;(with_reducible refine(SC1.out _).mono ?_);rintro e w13 ⟨rfl,hb⟩;have K13:=Lib.hid (K12.out.on hb);have G13:=Lib.hid (below_step G12.out hb);clear hb K12 G12)
  | (refine at_load 27 (.tmp 2) (by rfl) ?_;refine wpListG_row (by rfl) 27 (.tmp 2) (by rfl) (w.heap.size+1) (by rfl) 27 #[.string ⟨#[97]⟩,.string ⟨#[49]⟩] _ (K13.out.row 4 rfl) Tryz.underlying27 (by rfl) infoc_D ?_)
  | (go_at_call 34;(with_reducible refine(SC2.out _).mono ?_);rintro e w14 ⟨rfl,hb⟩;have K14:=Lib.hid (K13.out.on hb);have G14:=Lib.hid (below_step G13.out hb);clear hb K13 G13))
 go_ret
 exact⟨rfl,G14.out⟩
end Go.Proofs.YtahiajeggbpogaaGreatDoor
