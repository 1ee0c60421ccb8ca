import Derived.Test.YtahiajeggbpogaaGreatDoorUpH
set_option maxRecDepth 100000
set_option maxHeartbeats 4000000
namespace Go.Proofs.YtahiajeggbpogaaGreatDoor
open Go.RowKit Px Tx Tb Up
set_option linter.unusedVariables false
set_option linter.unusedSimpArgs false
theorem u_rest'(k b:Nat)(w:World)(hk:k≤8) :
  Calls Tryz.prog 71 #[.agg #[.int .u8 ((8-k:Nat):Int),.int .u8 (b:Int)]] w fun e w'=>e = .returned (.int .i64 (k:Int))∧Below w.heap.size w w':=by
 have:=u_rest (8-k) b w (by omega)
 rwa [show 8-(8-k)=k by omega] at this
theorem below_setCells{B g:Nat}{w w0:World}(vs:List Value)(o:Nat)(hB:B≤g)(h:Below B w0 w):Below B w0 (w.setCells g o vs):=setCells_below hB vs o w w0 h
namespace Up
abbrev HBg (g K:Nat) (most:Int) (s:Sta) (B Y Z:Nat):Prop:=∀{W:World} {fs:List Fact} {gs:List Bx} {i:Nat} {A:Option Addr} {n c:Nat} {LA:Option Addr} {ln lc:Nat},Opn W fs gs i g K most A n c LA ln lc s→kF K∈fs→
 Calls Tryz.prog 60 #[.pointer (some ⟨g,0,none⟩)] W fun e w'=>e = .returned (.tuple #[.agg #[.int .u8 ((8-B:Nat):Int),.int .u8 (Y:Int)],.int .u8 (Z:Int)])∧Below W.heap.size W w'
abbrev HNm (g K:Nat) (most:Int) (s:Sta) (B V C:Nat) (R:List UInt8):Prop:=∀{W:World} {fs:List Fact} {gs:List Bx} {i:Nat} {A:Option Addr} {n c:Nat} {LA:Option Addr} {ln lc:Nat},Opn W fs gs i g K most A n c LA ln lc s→
 Calls Tryz.prog 85 #[.pointer (some ⟨g,0,none⟩),.int .i64 (B:Int)] W fun e w'=>e = .returned (.tuple #[.int .i64 (V:Int),.int .i64 (C:Int)])∧W.grownBy w' (some g)∧Cls w' fs gs i g K most ⟨s.M,s.xs,R⟩
abbrev HOw (g K:Nat) (most:Int) (s:Sta) (V:Nat) (a b:ByteArray) (OE:Int) (R:List UInt8):Prop:=∀{W:World} {fs:List Fact} {gs:List Bx} {i:Nat} {A:Option Addr} {n c:Nat} {LA:Option Addr} {ln lc:Nat},Opn W fs gs i g K most A n c LA ln lc s→rwF∈fs→stF∈fs→
 Calls Tryz.prog 87 #[.pointer (some ⟨g,0,none⟩),.int .i64 (V:Int)] W fun e w'=>e = .returned (.tuple #[.agg #[.string a,.string b],.int .i64 OE])∧W.grownBy w' (some g)∧Cls w' fs gs i g K most ⟨s.M,s.xs,R⟩
abbrev HAt (M:Int) (xs:List Fd) (V:Nat) (a b:ByteArray) (E:Int):Prop:=∀{W:World} {A:Option Addr} {n c:Nat},Fs W W.heap.size A n xs→Stv W→
 Calls Tryz.prog 86 #[.agg #[.int .i64 M,.slice A n c],.int .i64 (V:Int)] W fun e w'=>e = .returned (.tuple #[.agg #[.string a,.string b],.int .i64 E])∧Below W.heap.size W w'
abbrev HAd (M:Int) (xs:List Fd) (a b:ByteArray) (M':Int) (L:List Fd) (E:Int):Prop:=∀{W:World} {A:Option Addr} {n c:Nat},Fs W W.heap.size A n xs→(A=none→c=0)→
 Calls Tryz.prog 88 #[.agg #[.int .i64 M,.slice A n c],.agg #[.string a,.string b]] W fun e w'=>∃A' c',e = .returned (.tuple #[.agg #[.int .i64 M',.slice A' L.length c'],.int .i64 E])∧HandF w' W.heap.size (fF A' L.length L)∧(A'=none→c'=0)∧Below W.heap.size W w'
end Up
theorem u_field_a{fs:List Fact}{gs:List Bx}{i g K:Nat}{most:Int}{A:Option Addr}{n c:Nat}{LA:Option Addr}{ln lc:Nat}{s:Sta}(w:World)(hO:Opn w fs gs i g K most A n c LA ln lc s)(B Y Z V C:Nat)(R:List UInt8)(hK:kF K∈fs)(HB:Hid (HBg g K most s B Y Z))(HN:Hid (HNm g K most s B V C R))(hB8:B≤8)(hC:C≠0) :
  Calls Tryz.prog 63 #[.pointer (some ⟨g,0,none⟩)] w fun e w'=>e = .returned (.tuple #[.agg #[.string ⟨#[]⟩,.string ⟨#[]⟩],.int .i64 (C:Int)])∧w.grownBy w' (some g)∧Cls w' fs gs i g K most ⟨s.M,s.xs,R⟩:=by
 have HI:=Lib.hid hO.i
 have HKF:=Lib.hid hK
 have K0:=Lib.hid ((hO).boxg 27 #[.string ⟨#[]⟩,.string ⟨#[]⟩] w.heap.size (by simp))
 have G0:Hid (w.grownBy _ (some g)):=Lib.hid (gb_alloc (gb_refl w g) (.cells #[.string ⟨#[]⟩,.string ⟨#[]⟩] 27))
 have hb:((C:Int) != 0)=true:=by rw[bne_iff_ne];omega
 clear hO hK
 go_enter Tryz.func63,Tryz.ntmps63
 go_wp2_with (first
  | go_skip
  | (go_at_call 60;(with_reducible refine(HB.out K0.out HKF.out).mono ?_);rintro e w1 ⟨rfl,hb⟩;have K1:=Lib.hid (K0.out.on hb);have G1:Hid (w.grownBy w1 (some g)):=Lib.hid (gb_below G0.out hb);clear hb K0 G0;have K1b:=Lib.hid (K1.out.boxg 72 #[.int .u8 0,.int .u8 0] w1.heap.size rfl);have G1b:Hid (w.grownBy _ (some g)):=Lib.hid (gb_alloc G1.out (.cells #[.int .u8 0,.int .u8 0] 72));have hz1:w.heap.size≤w1.heap.size:=G1.out.size;clear K1 G1)
  | (refine at_store 72 (.tmp 4) (.tmp 10) (by rfl) ?_;refine wpList_put (by rfl) 72 (.tmp 4) (.tmp 10) (by rfl) w1.heap.size 0 (.agg #[.int .u8 ((8-B:Nat):Int),.int .u8 (Y:Int)]) (by rfl) (by rfl) 72 #[.int .u8 0,.int .u8 0] #[.int .u8 ((8-B:Nat):Int),.int .u8 (Y:Int)] (K1b.out.e.row 0 rfl) (by simp[Value.cells]) (by kernel_rfl) infoc_m (by kernel_rfl) ?_;intro w2 hrow hoth hz hbl;have K2:=Lib.hid (K1b.out.turn 0 rfl (by omega) hrow hoth hz);have G2:Hid (w.grownBy w2 (some g)):=Lib.hid (gb_put G1b.out hoth hz hbl (.inr (by omega)));clear hrow hoth hz hbl K1b G1b)
  | (refine at_load 72 (.tmp 4) (by rfl) ?_;refine wpList_load_row (by rfl) 72 (.tmp 4) (by rfl) w1.heap.size (by rfl) 72 #[.int .u8 ((8-B:Nat):Int),.int .u8 (Y:Int)] (0,0) _ (K2.out.e.row 0 rfl) Tryz.underlying72 (by rfl) infoc_m ?_)
  | (go_at_call 71;(with_reducible refine(u_rest' B Y _ hB8).mono ?_);rintro e w3 ⟨rfl,hb⟩;have K3:=Lib.hid (K2.out.on hb);have G3:Hid (w.grownBy w3 (some g)):=Lib.hid (gb_below G2.out hb);clear hb K2 G2)
  | (go_at_call 85;(with_reducible refine(HN.out K3.out).mono ?_);rintro e w4 ⟨rfl,hg,A4,n4,c4,LA4,ln4,lc4,hk⟩;have K4:=Lib.hid hk;have G4:Hid (w.grownBy w4 (some g)):=Lib.hid (gb_trans G3.out hg);clear hg hk K3 G3)
  | (refine at_load 27 (.tmp 2) (by rfl) ?_;refine wpList_load_row (by rfl) 27 (.tmp 2) (by rfl) w.heap.size (by rfl) 27 #[.string ⟨#[]⟩,.string ⟨#[]⟩] (0,0) _ (K4.out.e.row 1 rfl) Tryz.underlying27 (by rfl) infoc_D ?_)
  | (refine at_store 27 (.tmp 2) (.tmp 21) (by rfl) ?_;refine wpList_put (by rfl) 27 (.tmp 2) (.tmp 21) (by rfl) w.heap.size 0 (.agg #[.string ⟨#[]⟩,.string ⟨#[]⟩]) (by rfl) (by rfl) 27 #[.string ⟨#[]⟩,.string ⟨#[]⟩] #[.string ⟨#[]⟩,.string ⟨#[]⟩] (K4.out.e.row 1 rfl) (by simp[Value.cells]) (by kernel_rfl) infoc_D (by kernel_rfl) ?_;intro w5 hrow hoth hz hbl;have K5:=Lib.hid (K4.out.turn 1 rfl (by omega) hrow hoth hz);have G5:Hid (w.grownBy w5 (some g)):=Lib.hid (gb_put G4.out hoth hz hbl (.inr (by omega)));clear hrow hoth hz hbl K4 G4))
 exact bodyPost_ret (res_cell_tmp rfl _ _ _ _ _ _ rfl (K5.out.e.row 1 rfl) Tryz.underlying27 rfl infoc_D) rfl ⟨rfl,G5.out,K5.out.shut (fun x hx=>by simp[hx]) HI.out (by simp only[List.set_cons_succ,List.set_cons_zero,List.set_set];exact(List.sublist_cons_self _ _).trans (List.sublist_cons_self _ _))⟩
theorem u_field_b{fs:List Fact}{gs:List Bx}{i g K:Nat}{most:Int}{A:Option Addr}{n c:Nat}{LA:Option Addr}{ln lc:Nat}{s:Sta}(w:World)(hO:Opn w fs gs i g K most A n c LA ln lc s)(B Y Z V C:Nat)(R:List UInt8)(a b:ByteArray)(AE:Int)(hK:kF K∈fs)(HB:Hid (HBg g K most s B Y Z))(HN:Hid (HNm g K most s B V C R))(hB8:B≤8)(hC:C=0)(hZ:Z=1)(hS:stF∈fs)(HA:Hid (HAt s.M s.xs V a b AE)) :
  Calls Tryz.prog 63 #[.pointer (some ⟨g,0,none⟩)] w fun e w'=>e = .returned (.tuple #[.agg #[.string a,.string b],.int .i64 AE])∧w.grownBy w' (some g)∧Cls w' fs gs i g K most ⟨s.M,s.xs,R⟩:=by
 have HI:=Lib.hid hO.i
 have HKF:=Lib.hid hK
 have K0:=Lib.hid ((hO).boxg 27 #[.string ⟨#[]⟩,.string ⟨#[]⟩] w.heap.size (by simp))
 have G0:Hid (w.grownBy _ (some g)):=Lib.hid (gb_alloc (gb_refl w g) (.cells #[.string ⟨#[]⟩,.string ⟨#[]⟩] 27))
 have hb:((C:Int) != 0)=false:=by rw[hC];rfl
 have hz:((Z:Int)==1)=true:=by rw[hZ];rfl
 have HS:=Lib.hid hS
 clear hO hK hC hZ hS
 go_enter Tryz.func63,Tryz.ntmps63
 go_wp2_with (first
  | go_skip
  | (go_at_call 60;(with_reducible refine(HB.out K0.out HKF.out).mono ?_);rintro e w1 ⟨rfl,hb⟩;have K1:=Lib.hid (K0.out.on hb);have G1:Hid (w.grownBy w1 (some g)):=Lib.hid (gb_below G0.out hb);clear hb K0 G0;have K1b:=Lib.hid (K1.out.boxg 72 #[.int .u8 0,.int .u8 0] w1.heap.size rfl);have G1b:Hid (w.grownBy _ (some g)):=Lib.hid (gb_alloc G1.out (.cells #[.int .u8 0,.int .u8 0] 72));have hz1:w.heap.size≤w1.heap.size:=G1.out.size;clear K1 G1)
  | (refine at_store 72 (.tmp 4) (.tmp 10) (by rfl) ?_;refine wpList_put (by rfl) 72 (.tmp 4) (.tmp 10) (by rfl) w1.heap.size 0 (.agg #[.int .u8 ((8-B:Nat):Int),.int .u8 (Y:Int)]) (by rfl) (by rfl) 72 #[.int .u8 0,.int .u8 0] #[.int .u8 ((8-B:Nat):Int),.int .u8 (Y:Int)] (K1b.out.e.row 0 rfl) (by simp[Value.cells]) (by kernel_rfl) infoc_m (by kernel_rfl) ?_;intro w2 hrow hoth hz hbl;have K2:=Lib.hid (K1b.out.turn 0 rfl (by omega) hrow hoth hz);have G2:Hid (w.grownBy w2 (some g)):=Lib.hid (gb_put G1b.out hoth hz hbl (.inr (by omega)));clear hrow hoth hz hbl K1b G1b)
  | (refine at_load 72 (.tmp 4) (by rfl) ?_;refine wpList_load_row (by rfl) 72 (.tmp 4) (by rfl) w1.heap.size (by rfl) 72 #[.int .u8 ((8-B:Nat):Int),.int .u8 (Y:Int)] (0,0) _ (K2.out.e.row 0 rfl) Tryz.underlying72 (by rfl) infoc_m ?_)
  | (go_at_call 71;(with_reducible refine(u_rest' B Y _ hB8).mono ?_);rintro e w3 ⟨rfl,hb⟩;have K3:=Lib.hid (K2.out.on hb);have G3:Hid (w.grownBy w3 (some g)):=Lib.hid (gb_below G2.out hb);clear hb K2 G2)
  | (go_at_call 85;(with_reducible refine(HN.out K3.out).mono ?_);rintro e w4 ⟨rfl,hg,A4,n4,c4,LA4,ln4,lc4,hk⟩;have K4:=Lib.hid hk;have G4:Hid (w.grownBy w4 (some g)):=Lib.hid (gb_trans G3.out hg);clear hg hk K3 G3)
  | (refine at_load 24 (.tmp 28) (by rfl) ?_;refine wpList_part (by rfl) 24 (.tmp 28) (by rfl) g 2 (by rfl) 64 (rdc K most s.M A4 n4 c4 LA4 ln4 lc4) #[.int .i64 s.M,.slice A4 n4 c4] _ (K4.out.row) (part2 (by rfl) (by rfl)) Tryz.underlying24 (by rfl) infoc_T ?_)
  | (go_at_call 86;(with_reducible refine(HA.out K4.out.fld (Tb.EnvF.stv K4.out.e (by simp[HS.out]))).mono ?_);rintro e w5 ⟨rfl,hb⟩;have K5:=Lib.hid (K4.out.on hb);have G5:Hid (w.grownBy w5 (some g)):=Lib.hid (gb_below G4.out hb);clear hb K4 G4)
  | (refine at_store 27 (.tmp 2) (.tmp 32) (by rfl) ?_;refine wpList_put (by rfl) 27 (.tmp 2) (.tmp 32) (by rfl) w.heap.size 0 (.agg #[.string a,.string b]) (by rfl) (by rfl) 27 #[.string ⟨#[]⟩,.string ⟨#[]⟩] #[.string a,.string b] (K5.out.e.row 1 rfl) (by simp[Value.cells]) (by kernel_rfl) infoc_D (by kernel_rfl) ?_;intro w6 hrow hoth hz hbl;have K6:=Lib.hid (K5.out.turn 1 rfl (by omega) hrow hoth hz);have G6:Hid (w.grownBy w6 (some g)):=Lib.hid (gb_put G5.out hoth hz hbl (.inr (by omega)));clear hrow hoth hz hbl K5 G5))
 exact bodyPost_ret (res_cell_tmp rfl _ _ _ _ _ _ rfl (K6.out.e.row 1 rfl) Tryz.underlying27 rfl infoc_D) rfl ⟨rfl,G6.out,K6.out.shut (fun x hx=>by simp[hx]) HI.out (by simp only[List.set_cons_succ,List.set_cons_zero,List.set_set];exact(List.sublist_cons_self _ _).trans (List.sublist_cons_self _ _))⟩
theorem u_field_c{fs:List Fact}{gs:List Bx}{i g K:Nat}{most:Int}{A:Option Addr}{n c:Nat}{LA:Option Addr}{ln lc:Nat}{s:Sta}(w:World)(hO:Opn w fs gs i g K most A n c LA ln lc s)(B Y Z V C:Nat)(R:List UInt8)(hK:kF K∈fs)(HB:Hid (HBg g K most s B Y Z))(HN:Hid (HNm g K most s B V C R))(hB8:B≤8)(hC:C=0)(hZ:Z=3) :
  Calls Tryz.prog 63 #[.pointer (some ⟨g,0,none⟩)] w fun e w'=>e = .returned (.tuple #[.agg #[.string ⟨#[]⟩,.string ⟨#[]⟩],.int .i64 100])∧w.grownBy w' (some g)∧Cls w' fs gs i g K most ⟨s.M,s.xs,R⟩:=by
 have HI:=Lib.hid hO.i
 have HKF:=Lib.hid hK
 have K0:=Lib.hid ((hO).boxg 27 #[.string ⟨#[]⟩,.string ⟨#[]⟩] w.heap.size (by simp))
 have G0:Hid (w.grownBy _ (some g)):=Lib.hid (gb_alloc (gb_refl w g) (.cells #[.string ⟨#[]⟩,.string ⟨#[]⟩] 27))
 have hb:((C:Int) != 0)=false:=by rw[hC];rfl
 have hz:((Z:Int)==1)=false:=by rw[hZ];rfl
 have hz3:((Z:Int)==3)=true:=by rw[hZ];rfl
 clear hO hK hC hZ
 go_enter Tryz.func63,Tryz.ntmps63
 go_wp2_with (first
  | go_skip
  | (go_at_call 60;(with_reducible refine(HB.out K0.out HKF.out).mono ?_);rintro e w1 ⟨rfl,hb⟩;have K1:=Lib.hid (K0.out.on hb);have G1:Hid (w.grownBy w1 (some g)):=Lib.hid (gb_below G0.out hb);clear hb K0 G0;have K1b:=Lib.hid (K1.out.boxg 72 #[.int .u8 0,.int .u8 0] w1.heap.size rfl);have G1b:Hid (w.grownBy _ (some g)):=Lib.hid (gb_alloc G1.out (.cells #[.int .u8 0,.int .u8 0] 72));have hz1:w.heap.size≤w1.heap.size:=G1.out.size;clear K1 G1)
  | (refine at_store 72 (.tmp 4) (.tmp 10) (by rfl) ?_;refine wpList_put (by rfl) 72 (.tmp 4) (.tmp 10) (by rfl) w1.heap.size 0 (.agg #[.int .u8 ((8-B:Nat):Int),.int .u8 (Y:Int)]) (by rfl) (by rfl) 72 #[.int .u8 0,.int .u8 0] #[.int .u8 ((8-B:Nat):Int),.int .u8 (Y:Int)] (K1b.out.e.row 0 rfl) (by simp[Value.cells]) (by kernel_rfl) infoc_m (by kernel_rfl) ?_;intro w2 hrow hoth hz hbl;have K2:=Lib.hid (K1b.out.turn 0 rfl (by omega) hrow hoth hz);have G2:Hid (w.grownBy w2 (some g)):=Lib.hid (gb_put G1b.out hoth hz hbl (.inr (by omega)));clear hrow hoth hz hbl K1b G1b)
  | (refine at_load 72 (.tmp 4) (by rfl) ?_;refine wpList_load_row (by rfl) 72 (.tmp 4) (by rfl) w1.heap.size (by rfl) 72 #[.int .u8 ((8-B:Nat):Int),.int .u8 (Y:Int)] (0,0) _ (K2.out.e.row 0 rfl) Tryz.underlying72 (by rfl) infoc_m ?_)
  | (go_at_call 71;(with_reducible refine(u_rest' B Y _ hB8).mono ?_);rintro e w3 ⟨rfl,hb⟩;have K3:=Lib.hid (K2.out.on hb);have G3:Hid (w.grownBy w3 (some g)):=Lib.hid (gb_below G2.out hb);clear hb K2 G2)
  | (go_at_call 85;(with_reducible refine(HN.out K3.out).mono ?_);rintro e w4 ⟨rfl,hg,A4,n4,c4,LA4,ln4,lc4,hk⟩;have K4:=Lib.hid hk;have G4:Hid (w.grownBy w4 (some g)):=Lib.hid (gb_trans G3.out hg);clear hg hk K3 G3)
  | (refine at_load 27 (.tmp 2) (by rfl) ?_;refine wpList_load_row (by rfl) 27 (.tmp 2) (by rfl) w.heap.size (by rfl) 27 #[.string ⟨#[]⟩,.string ⟨#[]⟩] (0,0) _ (K4.out.e.row 1 rfl) Tryz.underlying27 (by rfl) infoc_D ?_)
  | (refine at_store 27 (.tmp 2) (.tmp 36) (by rfl) ?_;refine wpList_put (by rfl) 27 (.tmp 2) (.tmp 36) (by rfl) w.heap.size 0 (.agg #[.string ⟨#[]⟩,.string ⟨#[]⟩]) (by rfl) (by rfl) 27 #[.string ⟨#[]⟩,.string ⟨#[]⟩] #[.string ⟨#[]⟩,.string ⟨#[]⟩] (K4.out.e.row 1 rfl) (by simp[Value.cells]) (by kernel_rfl) infoc_D (by kernel_rfl) ?_;intro w5 hrow hoth hz hbl;have K5:=Lib.hid (K4.out.turn 1 rfl (by omega) hrow hoth hz);have G5:Hid (w.grownBy w5 (some g)):=Lib.hid (gb_put G4.out hoth hz hbl (.inr (by omega)));clear hrow hoth hz hbl K4 G4))
 exact bodyPost_ret (res_cell_tmp rfl _ _ _ _ _ _ rfl (K5.out.e.row 1 rfl) Tryz.underlying27 rfl infoc_D) rfl ⟨rfl,G5.out,K5.out.shut (fun x hx=>by simp[hx]) HI.out (by simp only[List.set_cons_succ,List.set_cons_zero,List.set_set];exact(List.sublist_cons_self _ _).trans (List.sublist_cons_self _ _))⟩
theorem u_field_d1{fs:List Fact}{gs:List Bx}{i g K:Nat}{most:Int}{A:Option Addr}{n c:Nat}{LA:Option Addr}{ln lc:Nat}{s:Sta}(w:World)(hO:Opn w fs gs i g K most A n c LA ln lc s)(B Y Z V C:Nat)(R:List UInt8)(a b:ByteArray)(OE:Int)(R2:List UInt8)(hK:kF K∈fs)(HB:Hid (HBg g K most s B Y Z))(HN:Hid (HNm g K most s B V C R))(hB8:B≤8)(hC:C=0)(hOE:OE≠0)(hZ:Z=2∨Z=4)(hR:rwF∈fs)(hS:stF∈fs)(HW:Hid (HOw g K most ⟨s.M,s.xs,R⟩ V a b OE R2)) :
  Calls Tryz.prog 63 #[.pointer (some ⟨g,0,none⟩)] w fun e w'=>e = .returned (.tuple #[.agg #[.string a,.string b],.int .i64 OE])∧w.grownBy w' (some g)∧Cls w' fs gs i g K most ⟨s.M,s.xs,R2⟩:=by
 have HI:=Lib.hid hO.i
 have HKF:=Lib.hid hK
 have K0:=Lib.hid ((hO).boxg 27 #[.string ⟨#[]⟩,.string ⟨#[]⟩] w.heap.size (by simp))
 have G0:Hid (w.grownBy _ (some g)):=Lib.hid (gb_alloc (gb_refl w g) (.cells #[.string ⟨#[]⟩,.string ⟨#[]⟩] 27))
 have hb:((C:Int) != 0)=false:=by rw[hC];rfl
 have hz:((Z:Int)==1)=false:=by rw[beq_eq_false_iff_ne];omega
 have hz3:((Z:Int)==3)=false:=by rw[beq_eq_false_iff_ne];omega
 have ho:(OE==0)=false:=by rw[beq_eq_false_iff_ne];exact hOE
 have HR:=Lib.hid hR
 have HS:=Lib.hid hS
 clear hO hK hC hZ hR hS hOE
 go_enter Tryz.func63,Tryz.ntmps63
 go_wp2_with (first
  | go_skip
  | (go_at_call 60;(with_reducible refine(HB.out K0.out HKF.out).mono ?_);rintro e w1 ⟨rfl,hb⟩;have K1:=Lib.hid (K0.out.on hb);have G1:Hid (w.grownBy w1 (some g)):=Lib.hid (gb_below G0.out hb);clear hb K0 G0;have K1b:=Lib.hid (K1.out.boxg 72 #[.int .u8 0,.int .u8 0] w1.heap.size rfl);have G1b:Hid (w.grownBy _ (some g)):=Lib.hid (gb_alloc G1.out (.cells #[.int .u8 0,.int .u8 0] 72));have hz1:w.heap.size≤w1.heap.size:=G1.out.size;clear K1 G1)
  | (refine at_store 72 (.tmp 4) (.tmp 10) (by rfl) ?_;refine wpList_put (by rfl) 72 (.tmp 4) (.tmp 10) (by rfl) w1.heap.size 0 (.agg #[.int .u8 ((8-B:Nat):Int),.int .u8 (Y:Int)]) (by rfl) (by rfl) 72 #[.int .u8 0,.int .u8 0] #[.int .u8 ((8-B:Nat):Int),.int .u8 (Y:Int)] (K1b.out.e.row 0 rfl) (by simp[Value.cells]) (by kernel_rfl) infoc_m (by kernel_rfl) ?_;intro w2 hrow hoth hz hbl;have K2:=Lib.hid (K1b.out.turn 0 rfl (by omega) hrow hoth hz);have G2:Hid (w.grownBy w2 (some g)):=Lib.hid (gb_put G1b.out hoth hz hbl (.inr (by omega)));clear hrow hoth hz hbl K1b G1b)
  | (refine at_load 72 (.tmp 4) (by rfl) ?_;refine wpList_load_row (by rfl) 72 (.tmp 4) (by rfl) w1.heap.size (by rfl) 72 #[.int .u8 ((8-B:Nat):Int),.int .u8 (Y:Int)] (0,0) _ (K2.out.e.row 0 rfl) Tryz.underlying72 (by rfl) infoc_m ?_)
  | (go_at_call 71;(with_reducible refine(u_rest' B Y _ hB8).mono ?_);rintro e w3 ⟨rfl,hb⟩;have K3:=Lib.hid (K2.out.on hb);have G3:Hid (w.grownBy w3 (some g)):=Lib.hid (gb_below G2.out hb);clear hb K2 G2)
  | (go_at_call 85;(with_reducible refine(HN.out K3.out).mono ?_);rintro e w4 ⟨rfl,hg,A4,n4,c4,LA4,ln4,lc4,hk⟩;have K4:=Lib.hid hk;have G4:Hid (w.grownBy w4 (some g)):=Lib.hid (gb_trans G3.out hg);clear hg hk K3 G3)
  | (go_at_call 87;(with_reducible refine(HW.out K4.out (by simp[HR.out]) (by simp[HS.out])).mono ?_);rintro e w5 ⟨rfl,hg,A5,n5,c5,LA5,ln5,lc5,hk⟩;have K5:=Lib.hid hk;have G5:Hid (w.grownBy w5 (some g)):=Lib.hid (gb_trans G4.out hg);clear hg hk K4 G4)
  | (refine at_store 27 (.tmp 2) (.tmp 41) (by rfl) ?_;refine wpList_put (by rfl) 27 (.tmp 2) (.tmp 41) (by rfl) w.heap.size 0 (.agg #[.string a,.string b]) (by rfl) (by rfl) 27 #[.string ⟨#[]⟩,.string ⟨#[]⟩] #[.string a,.string b] (K5.out.e.row 1 rfl) (by simp[Value.cells]) (by kernel_rfl) infoc_D (by kernel_rfl) ?_;intro w6 hrow hoth hz hbl;have K6:=Lib.hid (K5.out.turn 1 rfl (by omega) hrow hoth hz);have G6:Hid (w.grownBy w6 (some g)):=Lib.hid (gb_put G5.out hoth hz hbl (.inr (by omega)));clear hrow hoth hz hbl K5 G5)
  | (refine at_load 27 (.tmp 2) (by rfl) ?_;refine wpList_load_row (by rfl) 27 (.tmp 2) (by rfl) w.heap.size (by rfl) 27 #[.string a,.string b] (0,0) _ (K6.out.e.row 1 rfl) Tryz.underlying27 (by rfl) infoc_D ?_)
  | (refine at_store 27 (.tmp 2) (.tmp 61) (by rfl) ?_;refine wpList_put (by rfl) 27 (.tmp 2) (.tmp 61) (by rfl) w.heap.size 0 (.agg #[.string a,.string b]) (by rfl) (by rfl) 27 #[.string a,.string b] #[.string a,.string b] (K6.out.e.row 1 rfl) (by simp[Value.cells]) (by kernel_rfl) infoc_D (by kernel_rfl) ?_;intro w7 hrow hoth hz hbl;have K7:=Lib.hid (K6.out.turn 1 rfl (by omega) hrow hoth hz);have G7:Hid (w.grownBy w7 (some g)):=Lib.hid (gb_put G6.out hoth hz hbl (.inr (by omega)));clear hrow hoth hz hbl K6 G6))
 exact bodyPost_ret (res_cell_tmp rfl _ _ _ _ _ _ rfl (K7.out.e.row 1 rfl) Tryz.underlying27 rfl infoc_D) rfl ⟨rfl,G7.out,K7.out.shut (fun x hx=>by simp[hx]) HI.out (by simp only[List.set_cons_succ,List.set_cons_zero,List.set_set];exact(List.sublist_cons_self _ _).trans (List.sublist_cons_self _ _))⟩
theorem u_field_d2{fs:List Fact}{gs:List Bx}{i g K:Nat}{most:Int}{A:Option Addr}{n c:Nat}{LA:Option Addr}{ln lc:Nat}{s:Sta}(w:World)(hO:Opn w fs gs i g K most A n c LA ln lc s)(B Y Z V C:Nat)(R:List UInt8)(a b:ByteArray)(OE:Int)(R2:List UInt8)(hK:kF K∈fs)(HB:Hid (HBg g K most s B Y Z))(HN:Hid (HNm g K most s B V C R))(hB8:B≤8)(hC:C=0)(hOE:OE=0)(hZ:Z=4)(hR:rwF∈fs)(hS:stF∈fs)(HW:Hid (HOw g K most ⟨s.M,s.xs,R⟩ V a b OE R2)) :
  Calls Tryz.prog 63 #[.pointer (some ⟨g,0,none⟩)] w fun e w'=>e = .returned (.tuple #[.agg #[.string a,.string b],.int .i64 OE])∧w.grownBy w' (some g)∧Cls w' fs gs i g K most ⟨s.M,s.xs,R2⟩:=by
 have HI:=Lib.hid hO.i
 have HKF:=Lib.hid hK
 have K0:=Lib.hid ((hO).boxg 27 #[.string ⟨#[]⟩,.string ⟨#[]⟩] w.heap.size (by simp))
 have G0:Hid (w.grownBy _ (some g)):=Lib.hid (gb_alloc (gb_refl w g) (.cells #[.string ⟨#[]⟩,.string ⟨#[]⟩] 27))
 have hb:((C:Int) != 0)=false:=by rw[hC];rfl
 have hz:((Z:Int)==1)=false:=by rw[beq_eq_false_iff_ne];omega
 have hz3:((Z:Int)==3)=false:=by rw[beq_eq_false_iff_ne];omega
 have ho:(OE==0)=true:=by rw[hOE];rfl
 have hz2:((Z:Int)==2)=false:=by rw[hZ];rfl
 have HR:=Lib.hid hR
 have HS:=Lib.hid hS
 clear hO hK hC hZ hR hS hOE
 go_enter Tryz.func63,Tryz.ntmps63
 go_wp2_with (first
  | go_skip
  | (go_at_call 60;(with_reducible refine(HB.out K0.out HKF.out).mono ?_);rintro e w1 ⟨rfl,hb⟩;have K1:=Lib.hid (K0.out.on hb);have G1:Hid (w.grownBy w1 (some g)):=Lib.hid (gb_below G0.out hb);clear hb K0 G0;have K1b:=Lib.hid (K1.out.boxg 72 #[.int .u8 0,.int .u8 0] w1.heap.size rfl);have G1b:Hid (w.grownBy _ (some g)):=Lib.hid (gb_alloc G1.out (.cells #[.int .u8 0,.int .u8 0] 72));have hz1:w.heap.size≤w1.heap.size:=G1.out.size;clear K1 G1)
  | (refine at_store 72 (.tmp 4) (.tmp 10) (by rfl) ?_;refine wpList_put (by rfl) 72 (.tmp 4) (.tmp 10) (by rfl) w1.heap.size 0 (.agg #[.int .u8 ((8-B:Nat):Int),.int .u8 (Y:Int)]) (by rfl) (by rfl) 72 #[.int .u8 0,.int .u8 0] #[.int .u8 ((8-B:Nat):Int),.int .u8 (Y:Int)] (K1b.out.e.row 0 rfl) (by simp[Value.cells]) (by kernel_rfl) infoc_m (by kernel_rfl) ?_;intro w2 hrow hoth hz hbl;have K2:=Lib.hid (K1b.out.turn 0 rfl (by omega) hrow hoth hz);have G2:Hid (w.grownBy w2 (some g)):=Lib.hid (gb_put G1b.out hoth hz hbl (.inr (by omega)));clear hrow hoth hz hbl K1b G1b)
  | (refine at_load 72 (.tmp 4) (by rfl) ?_;refine wpList_load_row (by rfl) 72 (.tmp 4) (by rfl) w1.heap.size (by rfl) 72 #[.int .u8 ((8-B:Nat):Int),.int .u8 (Y:Int)] (0,0) _ (K2.out.e.row 0 rfl) Tryz.underlying72 (by rfl) infoc_m ?_)
  | (go_at_call 71;(with_reducible refine(u_rest' B Y _ hB8).mono ?_);rintro e w3 ⟨rfl,hb⟩;have K3:=Lib.hid (K2.out.on hb);have G3:Hid (w.grownBy w3 (some g)):=Lib.hid (gb_below G2.out hb);clear hb K2 G2)
  | (go_at_call 85;(with_reducible refine(HN.out K3.out).mono ?_);rintro e w4 ⟨rfl,hg,A4,n4,c4,LA4,ln4,lc4,hk⟩;have K4:=Lib.hid hk;have G4:Hid (w.grownBy w4 (some g)):=Lib.hid (gb_trans G3.out hg);clear hg hk K3 G3)
  | (go_at_call 87;(with_reducible refine(HW.out K4.out (by simp[HR.out]) (by simp[HS.out])).mono ?_);rintro e w5 ⟨rfl,hg,A5,n5,c5,LA5,ln5,lc5,hk⟩;have K5:=Lib.hid hk;have G5:Hid (w.grownBy w5 (some g)):=Lib.hid (gb_trans G4.out hg);clear hg hk K4 G4)
  | (refine at_store 27 (.tmp 2) (.tmp 41) (by rfl) ?_;refine wpList_put (by rfl) 27 (.tmp 2) (.tmp 41) (by rfl) w.heap.size 0 (.agg #[.string a,.string b]) (by rfl) (by rfl) 27 #[.string ⟨#[]⟩,.string ⟨#[]⟩] #[.string a,.string b] (K5.out.e.row 1 rfl) (by simp[Value.cells]) (by kernel_rfl) infoc_D (by kernel_rfl) ?_;intro w6 hrow hoth hz hbl;have K6:=Lib.hid (K5.out.turn 1 rfl (by omega) hrow hoth hz);have G6:Hid (w.grownBy w6 (some g)):=Lib.hid (gb_put G5.out hoth hz hbl (.inr (by omega)));clear hrow hoth hz hbl K5 G5)
  | (refine at_load 27 (.tmp 2) (by rfl) ?_;refine wpList_load_row (by rfl) 27 (.tmp 2) (by rfl) w.heap.size (by rfl) 27 #[.string a,.string b] (0,0) _ (K6.out.e.row 1 rfl) Tryz.underlying27 (by rfl) infoc_D ?_)
  | (refine at_store 27 (.tmp 2) (.tmp 61) (by rfl) ?_;refine wpList_put (by rfl) 27 (.tmp 2) (.tmp 61) (by rfl) w.heap.size 0 (.agg #[.string a,.string b]) (by rfl) (by rfl) 27 #[.string a,.string b] #[.string a,.string b] (K6.out.e.row 1 rfl) (by simp[Value.cells]) (by kernel_rfl) infoc_D (by kernel_rfl) ?_;intro w7 hrow hoth hz hbl;have K7:=Lib.hid (K6.out.turn 1 rfl (by omega) hrow hoth hz);have G7:Hid (w.grownBy w7 (some g)):=Lib.hid (gb_put G6.out hoth hz hbl (.inr (by omega)));clear hrow hoth hz hbl K6 G6))
 exact bodyPost_ret (res_cell_tmp rfl _ _ _ _ _ _ rfl (K7.out.e.row 1 rfl) Tryz.underlying27 rfl infoc_D) rfl ⟨rfl,G7.out,K7.out.shut (fun x hx=>by simp[hx]) HI.out (by simp only[List.set_cons_succ,List.set_cons_zero,List.set_set];exact(List.sublist_cons_self _ _).trans (List.sublist_cons_self _ _))⟩
theorem u_field_e{fs:List Fact}{gs:List Bx}{i g K:Nat}{most:Int}{A:Option Addr}{n c:Nat}{LA:Option Addr}{ln lc:Nat}{s:Sta}(w:World)(hO:Opn w fs gs i g K most A n c LA ln lc s)(B Y Z V C:Nat)(R:List UInt8)(a b:ByteArray)(OE:Int)(R2:List UInt8)(M2:Int)(L2:List Fd)(E2:Int)(hK:kF K∈fs)(HB:Hid (HBg g K most s B Y Z))(HN:Hid (HNm g K most s B V C R))(hB8:B≤8)(hC:C=0)(hOE:OE=0)(hZ:Z=2)(hR:rwF∈fs)(hS:stF∈fs)(HW:Hid (HOw g K most ⟨s.M,s.xs,R⟩ V a b OE R2))(HAD:Hid (HAd s.M s.xs a b M2 L2 E2)) :
  Calls Tryz.prog 63 #[.pointer (some ⟨g,0,none⟩)] w fun e w'=>e = .returned (.tuple #[.agg #[.string a,.string b],.int .i64 E2])∧w.grownBy w' (some g)∧Cls w' fs gs i g K most ⟨M2,L2,R2⟩:=by
 have HI:=Lib.hid hO.i
 have HKF:=Lib.hid hK
 have K0:=Lib.hid ((hO).boxg 27 #[.string ⟨#[]⟩,.string ⟨#[]⟩] w.heap.size (by simp))
 have G0:Hid (w.grownBy _ (some g)):=Lib.hid (gb_alloc (gb_refl w g) (.cells #[.string ⟨#[]⟩,.string ⟨#[]⟩] 27))
 have hb:((C:Int) != 0)=false:=by rw[hC];rfl
 have hz:((Z:Int)==1)=false:=by rw[hZ];rfl
 have hz3:((Z:Int)==3)=false:=by rw[hZ];rfl
 have ho:(OE==0)=true:=by rw[hOE];rfl
 have hz2:((Z:Int)==2)=true:=by rw[hZ];rfl
 have HR:=Lib.hid hR
 have HS:=Lib.hid hS
 clear hO hK hC hZ hR hS hOE
 go_enter Tryz.func63,Tryz.ntmps63
 go_wp2_with (first
  | go_skip
  | (go_at_call 60;(with_reducible refine(HB.out K0.out HKF.out).mono ?_);rintro e w1 ⟨rfl,hb⟩;have K1:=Lib.hid (K0.out.on hb);have G1:Hid (w.grownBy w1 (some g)):=Lib.hid (gb_below G0.out hb);clear hb K0 G0;have K1b:=Lib.hid (K1.out.boxg 72 #[.int .u8 0,.int .u8 0] w1.heap.size rfl);have G1b:Hid (w.grownBy _ (some g)):=Lib.hid (gb_alloc G1.out (.cells #[.int .u8 0,.int .u8 0] 72));have hz1:w.heap.size≤w1.heap.size:=G1.out.size;clear K1 G1)
  | (refine at_store 72 (.tmp 4) (.tmp 10) (by rfl) ?_;refine wpList_put (by rfl) 72 (.tmp 4) (.tmp 10) (by rfl) w1.heap.size 0 (.agg #[.int .u8 ((8-B:Nat):Int),.int .u8 (Y:Int)]) (by rfl) (by rfl) 72 #[.int .u8 0,.int .u8 0] #[.int .u8 ((8-B:Nat):Int),.int .u8 (Y:Int)] (K1b.out.e.row 0 rfl) (by simp[Value.cells]) (by kernel_rfl) infoc_m (by kernel_rfl) ?_;intro w2 hrow hoth hz hbl;have K2:=Lib.hid (K1b.out.turn 0 rfl (by omega) hrow hoth hz);have G2:Hid (w.grownBy w2 (some g)):=Lib.hid (gb_put G1b.out hoth hz hbl (.inr (by omega)));clear hrow hoth hz hbl K1b G1b)
  | (refine at_load 72 (.tmp 4) (by rfl) ?_;refine wpList_load_row (by rfl) 72 (.tmp 4) (by rfl) w1.heap.size (by rfl) 72 #[.int .u8 ((8-B:Nat):Int),.int .u8 (Y:Int)] (0,0) _ (K2.out.e.row 0 rfl) Tryz.underlying72 (by rfl) infoc_m ?_)
  | (go_at_call 71;(with_reducible refine(u_rest' B Y _ hB8).mono ?_);rintro e w3 ⟨rfl,hb⟩;have K3:=Lib.hid (K2.out.on hb);have G3:Hid (w.grownBy w3 (some g)):=Lib.hid (gb_below G2.out hb);clear hb K2 G2)
  | (go_at_call 85;(with_reducible refine(HN.out K3.out).mono ?_);rintro e w4 ⟨rfl,hg,A4,n4,c4,LA4,ln4,lc4,hk⟩;have K4:=Lib.hid hk;have G4:Hid (w.grownBy w4 (some g)):=Lib.hid (gb_trans G3.out hg);clear hg hk K3 G3)
  | (go_at_call 87;(with_reducible refine(HW.out K4.out (by simp[HR.out]) (by simp[HS.out])).mono ?_);rintro e w5 ⟨rfl,hg,A5,n5,c5,LA5,ln5,lc5,hk⟩;have K5:=Lib.hid hk;have G5:Hid (w.grownBy w5 (some g)):=Lib.hid (gb_trans G4.out hg);clear hg hk K4 G4)
  | (refine at_store 27 (.tmp 2) (.tmp 41) (by rfl) ?_;refine wpList_put (by rfl) 27 (.tmp 2) (.tmp 41) (by rfl) w.heap.size 0 (.agg #[.string a,.string b]) (by rfl) (by rfl) 27 #[.string ⟨#[]⟩,.string ⟨#[]⟩] #[.string a,.string b] (K5.out.e.row 1 rfl) (by simp[Value.cells]) (by kernel_rfl) infoc_D (by kernel_rfl) ?_;intro w6 hrow hoth hz hbl;have K6:=Lib.hid (K5.out.turn 1 rfl (by omega) hrow hoth hz);have G6:Hid (w.grownBy w6 (some g)):=Lib.hid (gb_put G5.out hoth hz hbl (.inr (by omega)));clear hrow hoth hz hbl K5 G5))
 have hrr:=K6.out.row
 have cg2:w6.cell? ⟨g,2,none⟩=some (.int .i64 s.M):=by rw[cell_of_row w6 g 2 _ _ (0,0) hrr];rfl
 have cg3:w6.cell? ⟨g,3,none⟩=some (.slice A5 n5 c5):=by rw[cell_of_row w6 g 3 _ _ (0,0) hrr];rfl
 obtain⟨cf0,cf1⟩:=cells2_row (K6.out.e.row 1 rfl)
 have HAE:=Lib.hid (HAD.out (show Fs w6.drew w6.drew.heap.size A5 n5 s.xs from K6.out.fld) K6.out.hA (c:=c5))
 clear hrr
 refine wp_to (fun a w'=>∃(v0 v1 v4 v5 v6 v7 v8 v9 v10 v11 v12 v13 v14 v15 v16 v17 v18 v19 v20 v21 v22 v23 v24 v25 v26 v27 v28 v29 v30 v31 v32 v33 v34 v35 v36 v37 v38 v39 v40 v41 v42 v43 v44 v45 v46 v47 v48 v49 v50 v51 v52 v53 v54 v55 v56 v57 v58 v59 v60 v61 v62:Value) (Aa:Option Addr) (ca:Nat) (wa:World),a={ tmps:=#[v0,v1,.pointer (some ⟨w.heap.size,0,none⟩),.int .i64 E2,v4,v5,v6,v7,v8,v9,v10,v11,v12,v13,v14,v15,v16,v17,v18,v19,v20,v21,v22,v23,v24,v25,v26,v27,v28,v29,v30,v31,v32,v33,v34,v35,v36,v37,v38,v39,v40,v41,v42,v43,v44,v45,v46,v47,v48,v49,v50,v51,v52,v53,v54,v55,v56,v57,v58,v59,v60,v61,v62],defers:=[] }∧w'=wa.setCells g 2 [.int .i64 M2,.slice Aa L2.length ca]∧Below w6.heap.size w6 wa∧HandF wa w6.heap.size (fF Aa L2.length L2)∧(Aa=none→ca=0)) ?_ ?_
 ·go_region_with (go_at_call 88;(with_reducible refine HAE.out.mono ?_);rintro e wa ⟨Aa,ca,rfl,hh,hn,hb⟩;have hra:=(K6.out.on ((Below.refl _ w6).drew.trans hb)).row;have ca2:wa.cell? ⟨g,2,none⟩=some (.int .i64 s.M):=(by rw[cell_of_row wa g 2 _ _ (0,0) hra];rfl);have ca3:wa.cell? ⟨g,3,none⟩=some (.slice A5 n5 c5):=(by rw[cell_of_row wa g 3 _ _ (0,0) hra];rfl);have za2:=frozen_of_row wa g 2 _ _ hra;have za3:=frozen_of_row wa g 3 _ _ hra)
  all_goals exact⟨_,_,_,_,_,_,_,_,_,_,_,_,_,_,_,_,_,_,_,_,_,_,_,_,_,_,_,_,_,_,_,_,_,_,_,_,_,_,_,_,_,_,_,_,_,_,_,_,_,_,_,_,_,_,_,_,_,_,_,_,_,Aa,ca,wa,rfl,rfl,(Below.refl _ w6).drew.trans hb,hh,hn⟩
 rintro a w' ⟨v0,v1,v4,v5,v6,v7,v8,v9,v10,v11,v12,v13,v14,v15,v16,v17,v18,v19,v20,v21,v22,v23,v24,v25,v26,v27,v28,v29,v30,v31,v32,v33,v34,v35,v36,v37,v38,v39,v40,v41,v42,v43,v44,v45,v46,v47,v48,v49,v50,v51,v52,v53,v54,v55,v56,v57,v58,v59,v60,v61,v62,Aa,ca,wa,rfl,rfl,hb,hh,hn⟩
 have KA:=K6.out.on hb
 have e1:=((K6.out.e.hand hb hh).turn (i+1+1) KA.i (setCells_row g 64 [.int .i64 M2,.slice Aa L2.length ca] 2 wa _ KA.row) (setCells_other g _ 2 wa) (setCells_size g _ 2 wa))
 have KX:Hid (Opn (wa.setCells g 2 [.int .i64 M2,.slice Aa L2.length ca]) _ _ (i+1+1) g K most Aa L2.length ca LA5 ln5 lc5 ⟨M2,L2,R2⟩):=Lib.hid ⟨e1,set_ix KA.i,List.mem_cons_self ..,List.mem_cons_of_mem _ KA.l,KA.hl,KA.hN,hn⟩
 have GX:Hid (w.grownBy (wa.setCells g 2 [.int .i64 M2,.slice Aa L2.length ca]) (some g)):=Lib.hid (gb_put (gb_below G6.out hb) (setCells_other g _ 2 wa) (setCells_size g _ 2 wa) (fun B w0 hB h=>below_setCells _ _ hB h) (.inl rfl))
 clear e1 KA hh
 generalize wa.setCells g 2 [.int .i64 M2,.slice Aa L2.length ca]=wx at *
 go_wp2_with (first
  | go_skip
  | (refine at_load 27 (.tmp 2) (by rfl) ?_;refine wpList_load_row (by rfl) 27 (.tmp 2) (by rfl) w.heap.size (by rfl) 27 #[.string a,.string b] (0,0) _ (KX.out.e.row 1 rfl) Tryz.underlying27 (by rfl) infoc_D ?_)
  | (refine at_store 27 (.tmp 2) (.tmp 61) (by rfl) ?_;refine wpList_put (by rfl) 27 (.tmp 2) (.tmp 61) (by rfl) w.heap.size 0 (.agg #[.string a,.string b]) (by rfl) (by rfl) 27 #[.string a,.string b] #[.string a,.string b] (KX.out.e.row 1 rfl) (by simp[Value.cells]) (by kernel_rfl) infoc_D (by kernel_rfl) ?_;intro w21 hrow hoth hz hbl;have K21:=Lib.hid (KX.out.turn 1 rfl (by omega) hrow hoth hz);have G21:Hid (w.grownBy w21 (some g)):=Lib.hid (gb_put GX.out hoth hz hbl (.inr (by omega)));clear hrow hoth hz hbl KX GX))
 exact bodyPost_ret (res_cell_tmp rfl _ _ _ _ _ _ rfl (K21.out.e.row 1 rfl) Tryz.underlying27 rfl infoc_D) rfl ⟨rfl,G21.out,K21.out.shut (fun x hx=>by simp[hx]) HI.out (by simp only[List.set_cons_succ,List.set_cons_zero,List.set_set];exact(List.sublist_cons_self _ _).trans (List.sublist_cons_self _ _))⟩
end Go.Proofs.YtahiajeggbpogaaGreatDoor
