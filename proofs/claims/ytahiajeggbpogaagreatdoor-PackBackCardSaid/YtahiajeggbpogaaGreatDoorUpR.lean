import Derived.Test.YtahiajeggbpogaaGreatDoorUpQ
set_option maxRecDepth 100000
set_option maxHeartbeats 4000000
namespace Go.Proofs.YtahiajeggbpogaaGreatDoor
open Go.RowKit Go.Shelf Px Tx Tb Up
set_option linter.unusedVariables false
set_option linter.unusedSimpArgs false
attribute [local go_sem] Oper.semAt_some
theorem Up.putL_len(n:Int)(k u:Nat):(putL n k u).length≤6:=by
 unfold putL
 split
 ·rename_i h
  rw[numB_len_putN]
  have:=h.2
  exact numB_len (by omega)
 ·simp
theorem Up.be_len{s:List UInt8}(h:s.length≤10000):(beB s).length≤10006:=by
 have h1:=(be_le s).1
 have h2:=pl_len s
 have h3:=numB_len (n:=s.length) (k:=7) (by omega)
 omega
namespace Up
noncomputable def fldL(a b:List UInt8)(way:Int):List UInt8:=putL 0 (wR way) (wU way)++beB a++beB b
noncomputable def nmL(i:Int)(b:List UInt8)(way:Int):List UInt8:=if i<1 then [] else if putE i (wR way)=0 then putL i (wR way) (wU way)++beB b else []
def nmE(i:Int)(way:Int):Int:=if i<1 then 2 else putE i (wR way)
end Up
theorem u_Field(a b:List UInt8)(way:Int){fs:List Fact}{gs:List Bx}(w:World)(hV:EnvF w fs gs)(hR:rwF∈fs)(hM:mvF∈fs)(ha:a.length≤10000)(hb:b.length≤10000) :
  Calls Tryz.prog 18 #[.agg #[.string ⟨a.toArray⟩,.string ⟨b.toArray⟩],.int .i64 way] w fun e w'=>∃A c,e = .returned (.slice A (fldL a b way).length c)∧OwnB w' w.heap.size 5 (.slice A (fldL a b way).length c) (fldL a b way)∧Below w.heap.size w w':=by
 obtain⟨i0,hi,hz0,hz1,hz2⟩:=info_parts info_tu8
 have hinf:=Lib.hid (And.intro hi (And.intro hz0 (And.intro hz1 hz2)))
 obtain⟨w0,hw0⟩ : ∃w0,w.alloc (.cells #[.string ⟨a.toArray⟩,.string ⟨b.toArray⟩] 27)=w0:=⟨_,rfl⟩
 have K0:Hid (EnvF w0 fs ((w.heap.size,#[.string ⟨a.toArray⟩,.string ⟨b.toArray⟩],27)::gs)):=Lib.hid (hw0 ▸ hV.boxg 27 #[.string ⟨a.toArray⟩,.string ⟨b.toArray⟩] w.heap.size rfl)
 have G0:Hid (Below w.heap.size w w0):=Lib.hid (hw0 ▸ (Below.refl w.heap.size w).alloc (Nat.le_refl _) _)
 have hz0':w.heap.size<w0.heap.size:=by rw[←hw0];simp
 have HR:=Lib.hid hR
 have HM:=Lib.hid hM
 have HBA:=Lib.hid (fun W h=>x_Best a W h ha)
 have HBB:=Lib.hid (fun W h=>x_Best b W h hb)
 have hla:=be_len ha
 have hlb:=be_len hb
 have hlp:=putL_len 0 (wR way) (wU way)
 have HPW:=Lib.hid (fun W=>u_putW way 0 W)
 unfold fldL
 unfold PutD at HPW
 generalize beB a=la at *
 generalize beB b=lb at *
 generalize putL 0 (wR way) (wU way)=pl at *
 generalize putE 0 (wR way)=pe at *
 clear ha hb hV hR hM hi hz0 hz1 hz2
 go_enter Tryz.func18,Tryz.ntmps18
 go_wp2_with (first
  | go_skip
  | (go_at_call 48;(try rw[hw0]);(with_reducible refine(u_markOf way _ (Up.EnvF.mks K0.out HM.out)).mono ?_);rintro e w1 ⟨rfl,hb⟩;have D1:Hid (Below w0.heap.size w0 w1):=Lib.hid hb;clear hb)
  | (go_at_call 46;(with_reducible refine(HPW.out _).mono ?_);rintro e w2 ⟨A2,c2,rfl,ho,hb⟩;have HO2:=Lib.hid ho;have D2:Hid (Below w0.heap.size w0 w2):=Lib.hid (below_step D1.out hb);have hz1:w0.heap.size≤w1.heap.size:=D1.out.size;have hz2:w1.heap.size≤w2.heap.size:=hb.size;clear hb ho)
  | (refine at_load 9 (.tmp 14) (by rfl) ?_;refine wpListG_get (by rfl) 9 (.tmp 14) (by rfl) w.heap.size 0 (by rfl) 27 #[.string ⟨a.toArray⟩,.string ⟨b.toArray⟩] (.string ⟨a.toArray⟩) _ ((K0.out.on D2.out).row 0 rfl) (by rfl) Tryz.underlying9 (by rfl) ?_)
  | (go_at_call 49;(with_reducible refine(HBA.out _ (Up.EnvF.rws (K0.out.on D2.out) HR.out)).mono ?_);rintro e w3 ⟨A3,c3,rfl,hh,hb⟩;have HH3:=Lib.hid hh;have HO3:=Lib.hid (HO2.out.kept hb);have D3:Hid (Below w0.heap.size w0 w3):=Lib.hid (below_step D2.out hb);have hz3:w1.heap.size≤w3.heap.size:=Nat.le_trans hz2 hb.size;clear hb hh HO2)
  | (at_builtin;refine wpList_append_bytes _ rfl (.tmp 13) (.tmp 16) 25 rfl w1.heap.size 5 i0 Tryz.underlying25 hinf.out.1 hinf.out.2.1 hinf.out.2.2.1 hinf.out.2.2.2 _ (pl) rfl HO3.out _ A3 (la).length c3 (la) rfl HH3.out.1 HH3.out.2.2.2 (by first | omega | (simp only[List.length_append];omega)) hz3 ?_;intro v4 w4 ho hb;obtain⟨A4,c4,rfl,_⟩:=ho.handS (n:=pl.length+la.length) (by simp);have HO4:=Lib.hid ho;have D4:Hid (Below w0.heap.size w0 w4):=Lib.hid (D3.out.trans (hb.mono hz1));have hz4:w1.heap.size≤w4.heap.size:=Nat.le_trans hz3 hb.size;clear hb ho HO3 HH3)
  | (refine at_load 9 (.tmp 19) (by rfl) ?_;refine wpListG_get (by rfl) 9 (.tmp 19) (by rfl) w.heap.size 1 (by rfl) 27 #[.string ⟨a.toArray⟩,.string ⟨b.toArray⟩] (.string ⟨b.toArray⟩) _ ((K0.out.on D4.out).row 0 rfl) (by rfl) Tryz.underlying9 (by rfl) ?_)
  | (go_at_call 49;(with_reducible refine(HBB.out _ (Up.EnvF.rws (K0.out.on D4.out) HR.out)).mono ?_);rintro e w5 ⟨A5,c5,rfl,hh,hb⟩;have HH5:=Lib.hid hh;have HO5:=Lib.hid (HO4.out.kept hb);have D5:Hid (Below w0.heap.size w0 w5):=Lib.hid (below_step D4.out hb);have hz5:w1.heap.size≤w5.heap.size:=Nat.le_trans hz4 hb.size;clear hb hh HO4)
  | (at_builtin;refine wpList_append_bytes _ rfl (.tmp 18) (.tmp 21) 25 rfl w1.heap.size 5 i0 Tryz.underlying25 hinf.out.1 hinf.out.2.1 hinf.out.2.2.1 hinf.out.2.2.2 _ (pl++la) rfl HO5.out _ A5 (lb).length c5 (lb) rfl HH5.out.1 HH5.out.2.2.2 (by first | omega | (simp only[List.length_append];omega)) hz5 ?_;intro v6 w6 ho hb;obtain⟨A6,c6,rfl,_⟩:=ho.handS (n:=(pl++la++lb).length) rfl;have HO6:=Lib.hid ho;have D6:Hid (Below w0.heap.size w0 w6):=Lib.hid (D5.out.trans (hb.mono hz1));clear hb ho))
 go_ret
 refine⟨A6,c6,by simp,?_,G0.out.trans (D6.out.mono (by omega))⟩
 exact HO6.out.less (by omega)
theorem u_Indexed(i:Int)(w:World)(hM:Mks w):Calls Tryz.prog 11 #[.int .i64 i] w (PutD i 7 128 w):=by
 have HP:=Lib.hid (u_putIndexed i w)
 obtain⟨⟨a0,a1⟩,_⟩:=hM
 unfold PutD at HP ⊢
 generalize putL i (7:Nat) 128=pl at *
 generalize putE i (7:Nat)=pe at *
 go_enter Tryz.func11,Tryz.ntmps11
 go_wp2_with (go_at_call 46;(with_reducible refine HP.out.mono ?_);rintro e w1 ⟨A1,c1,rfl,ho,hb⟩;have HO:=Lib.hid ho;have HB:=Lib.hid hb;clear ho hb)
 go_ret2
 exact⟨A1,c1,rfl,HO.out,HB.out⟩
theorem u_Sized(i:Int)(w:World)(hM:Mks w):Calls Tryz.prog 13 #[.int .i64 i] w (PutD i 5 32 w):=by
 have HP:=Lib.hid (u_putSize i w)
 obtain⟨_,_,⟨a0,a1⟩,_⟩:=hM
 unfold PutD at HP ⊢
 generalize putL i (5:Nat) 32=pl at *
 generalize putE i (5:Nat)=pe at *
 go_enter Tryz.func13,Tryz.ntmps13
 go_wp2_with (go_at_call 46;(with_reducible refine HP.out.mono ?_);rintro e w1 ⟨A1,c1,rfl,ho,hb⟩;have HO:=Lib.hid ho;have HB:=Lib.hid hb;clear ho hb)
 go_ret2
 exact⟨A1,c1,rfl,HO.out,HB.out⟩
theorem u_Named(i:Int)(b:List UInt8)(way:Int){fs:List Fact}{gs:List Bx}(w:World)(hV:EnvF w fs gs)(hR:rwF∈fs)(hM:mvF∈fs)(hb:b.length≤10000) :
  Calls Tryz.prog 15 #[.int .i64 i,.string ⟨b.toArray⟩,.int .i64 way] w fun e w'=>∃A c,e = .returned (.tuple #[.slice A (nmL i b way).length c,.int .i64 (nmE i way)])∧HandS w' w.heap.size A (nmL i b way).length c (nmL i b way)∧Below w.heap.size w w':=by
 by_cases h1:i<1
 ·have d1:decide (i<1)=true:=decide_eq_true h1
  unfold nmL nmE
  rw[if_pos h1,if_pos h1]
  go_enter Tryz.func15,Tryz.ntmps15
  go_wp2
  go_ret2
  exact⟨none,0,rfl,HandS.nil_ _ _,Below.refl _ _⟩
 have d1:decide (i<1)=false:=decide_eq_false h1
 obtain⟨i0,hi,hz0,hz1,hz2⟩:=info_parts info_tu8
 have hinf:=Lib.hid (And.intro hi (And.intro hz0 (And.intro hz1 hz2)))
 have HR:=Lib.hid hR
 have HV:=Lib.hid hV
 have HM:=Lib.hid hM
 have HBB:=Lib.hid (fun W h=>x_Best b W h hb)
 have hlb:=be_len hb
 have hlp:=putL_len i (wR way) (wU way)
 have HPW:=Lib.hid (fun W=>u_putW way i W)
 unfold nmL nmE
 unfold PutD at HPW
 rw[if_neg h1,if_neg h1]
 generalize beB b=lb at *
 generalize putL i (wR way) (wU way)=pl at *
 generalize putE i (wR way)=pe at *
 clear hb hV hR hM hi hz0 hz1 hz2 h1
 by_cases h2:pe=0
 ·subst h2
  rw[if_pos rfl]
  go_enter Tryz.func15,Tryz.ntmps15
  go_wp2_with (first
   | go_skip
   | (go_at_call 48;(with_reducible refine(u_markOf way _ (Up.EnvF.mks HV.out HM.out)).mono ?_);rintro e w1 ⟨rfl,hb⟩;have D1:=Lib.hid hb;clear hb)
   | (go_at_call 46;(with_reducible refine(HPW.out _).mono ?_);rintro e w2 ⟨A2,c2,rfl,ho,hb⟩;have HO2:=Lib.hid ho;have D2:Hid (Below w.heap.size w w2):=Lib.hid (below_step D1.out hb);have hz1:w.heap.size≤w1.heap.size:=D1.out.size;have hz2:w1.heap.size≤w2.heap.size:=hb.size;clear hb ho)
   | (go_at_call 49;(with_reducible refine(HBB.out _ (Up.EnvF.rws (HV.out.on D2.out) HR.out)).mono ?_);rintro e w5 ⟨A5,c5,rfl,hh,hb⟩;have HH5:=Lib.hid hh;have HO5:=Lib.hid (HO2.out.kept hb);have D5:Hid (Below w.heap.size w w5):=Lib.hid (below_step D2.out hb);have hz5:w1.heap.size≤w5.heap.size:=Nat.le_trans hz2 hb.size;clear hb hh HO2)
   | (at_builtin;refine wpList_append_bytes _ rfl (.tmp 22) (.tmp 24) 25 rfl w1.heap.size 5 i0 Tryz.underlying25 hinf.out.1 hinf.out.2.1 hinf.out.2.2.1 hinf.out.2.2.2 _ (pl) rfl HO5.out _ A5 (lb).length c5 (lb) rfl HH5.out.1 HH5.out.2.2.2 (by first | omega | (simp only[List.length_append];omega)) hz5 ?_;intro v6 w6 ho hb;obtain⟨A6,c6,rfl,hh6⟩:=ho.handS (n:=(pl++lb).length) rfl;have HH6:=Lib.hid hh6;have D6:Hid (Below w.heap.size w w6):=Lib.hid (D5.out.trans (hb.mono hz1));clear hb ho hh6))
  go_ret2
  refine⟨A6,c6,by simp,?_,D6.out⟩
  exact⟨HH6.out.1,FreshS.less HH6.out.2.1 hz1,HH6.out.2.2⟩
 ·rw[if_neg h2]
  have e2:(pe != 0)=true:=by rw[bne_iff_ne];exact h2
  clear h2
  go_enter Tryz.func15,Tryz.ntmps15
  go_wp2_with (first
   | go_skip
   | (go_at_call 48;(with_reducible refine(u_markOf way _ (Up.EnvF.mks HV.out HM.out)).mono ?_);rintro e w1 ⟨rfl,hb⟩;have D1:=Lib.hid hb;clear hb)
   | (go_at_call 46;(with_reducible refine(HPW.out _).mono ?_);rintro e w2 ⟨A2,c2,rfl,ho,hb⟩;have D2:Hid (Below w.heap.size w w2):=Lib.hid (below_step D1.out hb);clear hb ho))
  go_ret2
  exact⟨none,0,rfl,HandS.nil_ _ _,D2.out⟩
end Go.Proofs.YtahiajeggbpogaaGreatDoor
