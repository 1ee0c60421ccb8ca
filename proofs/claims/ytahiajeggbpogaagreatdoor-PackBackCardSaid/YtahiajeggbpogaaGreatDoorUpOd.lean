import Derived.Test.YtahiajeggbpogaaGreatDoorUpOc
set_option maxRecDepth 100000
set_option maxHeartbeats 4000000
namespace Go.Proofs.YtahiajeggbpogaaGreatDoor
open Go.RowKit Go.Shelf Px Tx Tb Up GD
set_option linter.unusedVariables false
set_option linter.unusedSimpArgs false
attribute [local go_sem] Oper.semAt_some
theorem infoc_Os:(Tryz.prog.info? 9).map (·.size)=some 1:=by kernel_rfl
section
variable {w:World}{fs:List Fact}{gs:List Bx}{i g B:Nat}{s:Sta}{T:List Fd}
theorem d_add_hid{A:Option Addr}{n c:Nat}{xs:List Fd}{M:Int}{f0 f1:ByteArray}{N E:Int}{ys:List Fd}{n2:Nat}(hN:A=none→c=0)(hF:full xs≤100000)(hf:sz (f0,f1)≤100000)(h1:addM M xs=N)(h2:addE M xs=E)(h3:addL M xs (f0,f1)=ys)(h4:ys.length=n2) :
  Hid (∀W:World,Fs W W.heap.size A n xs→Calls Tryz.prog 56 #[.agg #[.int .i64 M,.slice A n c],.agg #[.string f0,.string f1]] W fun e w'=>∃A2 c2,e = .returned (.tuple #[.agg #[.int .i64 N,.slice A2 n2 c2],.int .i64 E])∧HandF w' W.heap.size (fF A2 n2 ys)∧(A2=none→c2=0)∧Below W.heap.size W w'):=
 Lib.hid fun W h=>by
  subst h1 h2 h3 h4
  refine(r_add M A n c xs (f0,f1) W h hN hF hf).mono ?_
  rintro e w' ⟨v,rfl,ho,hb⟩
  obtain⟨A3,c3,rfl,_,h5,_⟩:=ho.form2 (n:=(addL M xs (f0,f1)).length) rfl
  exact⟨A3,c3,rfl,ho.handF,h5,hb⟩
end
theorem d_lit_n{w:World}{fs:List Fact}{gs:List Bx}{i g B:Nat}{M:Int}{xs:List Fd}{ls R R1 R2:List UInt8}{T:List Fd}{V:Nat}{CE E1 E2 GE:Int}{s1 s2 ga gb:ByteArray}(k:Nat)(add:Bool)(hO:OpR w fs gs i g B ⟨M,xs,ls⟩ T)(HNUM:Hid (∀{W:World} {gs:List Bx} {i:Nat},OpR W fs gs i g B ⟨M,xs,ls⟩ T→Calls Tryz.prog 65 #[.pointer (some ⟨g,0,none⟩),.int .i64 (k:Int)] W fun e w'=>e = .returned (.tuple #[.int .i64 (V:Int),.int .i64 CE])∧Below B W w'∧OpR w' fs gs i g B ⟨M,xs,R⟩ T))(he:CE≠0) :
  Calls Tryz.prog 68 #[.pointer (some ⟨g,0,none⟩),.int .i64 (k:Int),.bool add] w fun e w'=>e = .returned (.int .i64 CE)∧Below B w w':=by
 have d1:(CE != 0)=true:=by simpa using he
 have K0:=Lib.hid hO
 have B0:=Lib.hid (Below.refl B w)
 clear hO
 go_enter Tryz.func68,Tryz.ntmps68
 go_wp2_with (first
  | go_skip
  | (go_at_call 65;(with_reducible refine(HNUM.out K0.out).mono ?_);rintro e w1 ⟨rfl,hb,hk⟩;have B1:=Lib.hid (B0.out.trans hb);have K1:=Lib.hid hk;clear hb hk K0 B0))
 go_ret
 exact⟨rfl,B1.out⟩
theorem d_lit_t1{w:World}{fs:List Fact}{gs:List Bx}{i g B:Nat}{M:Int}{xs:List Fd}{ls R R1 R2:List UInt8}{T:List Fd}{V:Nat}{CE E1 E2 GE:Int}{s1 s2 ga gb:ByteArray}(k:Nat)(add:Bool)(hO:OpR w fs gs i g B ⟨M,xs,ls⟩ T)(HNUM:Hid (∀{W:World} {gs:List Bx} {i:Nat},OpR W fs gs i g B ⟨M,xs,ls⟩ T→Calls Tryz.prog 65 #[.pointer (some ⟨g,0,none⟩),.int .i64 (k:Int)] W fun e w'=>e = .returned (.tuple #[.int .i64 0,.int .i64 0])∧Below B W w'∧OpR w' fs gs i g B ⟨M,xs,R⟩ T))(HT1:Hid (∀{W:World} {gs:List Bx} {i:Nat},OpR W fs gs i g B ⟨M,xs,R⟩ T→Calls Tryz.prog 91 #[.pointer (some ⟨g,0,none⟩)] W fun e w'=>e = .returned (.tuple #[.string s1,.int .i64 E1])∧Below B W w'∧OpR w' fs gs i g B ⟨M,xs,R1⟩ T))(he:E1≠0) :
  Calls Tryz.prog 68 #[.pointer (some ⟨g,0,none⟩),.int .i64 (k:Int),.bool add] w fun e w'=>e = .returned (.int .i64 E1)∧Below B w w':=by
 have d1:(E1 != 0)=true:=by simpa using he
 have K0:=Lib.hid hO
 have B0:=Lib.hid (Below.refl B w)
 clear hO
 go_enter Tryz.func68,Tryz.ntmps68
 go_wp2_with (first
  | go_skip
  | (go_at_call 65;(with_reducible refine(HNUM.out K0.out).mono ?_);rintro e w1 ⟨rfl,hb,hk⟩;have B1:=Lib.hid (B0.out.trans hb);have K1:=Lib.hid hk;clear hb hk K0 B0;have K1b:=Lib.hid (K1.out.box #[.string ⟨#[]⟩,.string ⟨#[]⟩] 27);have hz:=Lib.hid (K1.out.bz);have B1b:=Lib.hid (B1.out.alloc hz.out (.cells #[.string ⟨#[]⟩,.string ⟨#[]⟩] 27));have hw0:B≤w1.heap.size:=hz.out;clear K1 B1)
  | (go_at_call 91;(with_reducible refine(HT1.out K1b.out).mono ?_);rintro e w2 ⟨rfl,hb,hk⟩;have B2:=Lib.hid (B1b.out.trans hb);have K2:=Lib.hid hk;clear hb hk K1b B1b)
  | (refine at_store 9 (.tmp 36) (.tmp 34) (by rfl) ?_;refine wpList_put (by rfl) 9 (.tmp 36) (.tmp 34) (by rfl) w1.heap.size 0 (.string s1) (by rfl) (by rfl) 27 #[.string ⟨#[]⟩,.string ⟨#[]⟩] #[.string s1,.string ⟨#[]⟩] (K2.out.row0) (by simp[Value.cells]) (by kernel_rfl) infoc_Os (by kernel_rfl) ?_;intro w3 hrow hoth hz2 hbl;have K3:=Lib.hid (K2.out.turn0 hrow hoth hz2);have B3:=Lib.hid (hbl _ _ hw0 B2.out);clear hrow hoth hz2 hbl K2 B2))
 go_ret
 exact⟨rfl,B3.out⟩
theorem d_lit_i1{w:World}{fs:List Fact}{gs:List Bx}{i g B:Nat}{M:Int}{xs:List Fd}{ls R R1 R2:List UInt8}{T:List Fd}{V:Nat}{CE E1 E2 GE:Int}{s1 s2 ga gb:ByteArray}(k:Nat)(add:Bool)(hO:OpR w fs gs i g B ⟨M,xs,ls⟩ T)(HNUM:Hid (∀{W:World} {gs:List Bx} {i:Nat},OpR W fs gs i g B ⟨M,xs,ls⟩ T→Calls Tryz.prog 65 #[.pointer (some ⟨g,0,none⟩),.int .i64 (k:Int)] W fun e w'=>e = .returned (.tuple #[.int .i64 (V:Int),.int .i64 0])∧Below B W w'∧OpR w' fs gs i g B ⟨M,xs,R⟩ T))(HAT:Hid (∀(A2:Option Addr) (n2 c2:Nat) (W:World),Fs W W.heap.size A2 n2 xs→Calls Tryz.prog 66 #[.agg #[.int .i64 M,.slice A2 n2 c2],.int .i64 (V:Int)] W fun e w'=>e = .returned (.tuple #[.agg #[.string ga,.string gb],.int .i64 GE])∧Below W.heap.size W w'))(hV:0<V)(he:GE≠0) :
  Calls Tryz.prog 68 #[.pointer (some ⟨g,0,none⟩),.int .i64 (k:Int),.bool add] w fun e w'=>e = .returned (.int .i64 GE)∧Below B w w':=by
 have d1:(GE != 0)=true:=by simpa using he
 have dV:decide ((0:Int)<(V:Int))=true:=decide_eq_true (by omega)
 have dV2:decide (0<V)=true:=decide_eq_true hV
 have K0:=Lib.hid hO
 have B0:=Lib.hid (Below.refl B w)
 clear hO
 go_enter Tryz.func68,Tryz.ntmps68
 go_wp2_with (first
  | go_skip
  | (go_at_call 65;(with_reducible refine(HNUM.out K0.out).mono ?_);rintro e w1 ⟨rfl,hb,hk⟩;have B1:=Lib.hid (B0.out.trans hb);have K1:=Lib.hid hk;clear hb hk K0 B0;have K1b:=Lib.hid (K1.out.box #[.string ⟨#[]⟩,.string ⟨#[]⟩] 27);have hz:=Lib.hid (K1.out.bz);have B1b:=Lib.hid (B1.out.alloc hz.out (.cells #[.string ⟨#[]⟩,.string ⟨#[]⟩] 27));have hw0:B≤w1.heap.size:=hz.out;clear K1 B1)
  | (obtain⟨cs,A2,n2,c2,hrow,h3,h4,h6,hF2,hN2⟩:=K1b.out.cells;refine at_load 24 (.tmp 25) (by rfl) ?_;refine wpList_part (by rfl) 24 (.tmp 25) (by rfl) g 3 (by rfl) 67 cs #[.int .i64 M,.slice A2 n2 c2] _ hrow (part2 h3 h4) Tryz.underlying24 (by rfl) infoc_T ?_;have HF2:=Lib.hid hF2;clear hrow h3 h4 h6 hF2 hN2)
  | (go_at_call 66;(with_reducible refine(HAT.out _ _ _ _ HF2.out).mono ?_);rintro e w2 ⟨rfl,hb⟩;have K2:=Lib.hid (K1b.out.on hb);have B2:=Lib.hid (B1b.out.trans (hb.mono K1b.out.bz));clear hb K1b B1b HF2)
  | (refine at_store 27 (.tmp 9) (.tmp 29) (by rfl) ?_;refine wpList_put (by rfl) 27 (.tmp 9) (.tmp 29) (by rfl) w1.heap.size 0 (.agg #[.string ga,.string gb]) (by rfl) (by rfl) 27 #[.string ⟨#[]⟩,.string ⟨#[]⟩] #[.string ga,.string gb] (K2.out.row0) (by simp[Value.cells]) (by kernel_rfl) infoc_D (by kernel_rfl) ?_;intro w3 hrow hoth hz2 hbl;have K3:=Lib.hid (K2.out.turn0 hrow hoth hz2);have B3:=Lib.hid (hbl _ _ hw0 B2.out);clear hrow hoth hz2 hbl K2 B2))
 go_ret
 exact⟨rfl,B3.out⟩
theorem d_lit_t2{w:World}{fs:List Fact}{gs:List Bx}{i g B:Nat}{M:Int}{xs:List Fd}{ls R R1 R2:List UInt8}{T:List Fd}{V:Nat}{CE E1 E2 GE:Int}{s1 s2 ga gb:ByteArray}(k:Nat)(add:Bool)(hO:OpR w fs gs i g B ⟨M,xs,ls⟩ T)(HNUM:Hid (∀{W:World} {gs:List Bx} {i:Nat},OpR W fs gs i g B ⟨M,xs,ls⟩ T→Calls Tryz.prog 65 #[.pointer (some ⟨g,0,none⟩),.int .i64 (k:Int)] W fun e w'=>e = .returned (.tuple #[.int .i64 0,.int .i64 0])∧Below B W w'∧OpR w' fs gs i g B ⟨M,xs,R⟩ T))(HT1:Hid (∀{W:World} {gs:List Bx} {i:Nat},OpR W fs gs i g B ⟨M,xs,R⟩ T→Calls Tryz.prog 91 #[.pointer (some ⟨g,0,none⟩)] W fun e w'=>e = .returned (.tuple #[.string s1,.int .i64 0])∧Below B W w'∧OpR w' fs gs i g B ⟨M,xs,R1⟩ T))(HT2:Hid (∀{W:World} {gs:List Bx} {i:Nat},OpR W fs gs i g B ⟨M,xs,R1⟩ T→Calls Tryz.prog 91 #[.pointer (some ⟨g,0,none⟩)] W fun e w'=>e = .returned (.tuple #[.string s2,.int .i64 E2])∧Below B W w'∧OpR w' fs gs i g B ⟨M,xs,R2⟩ T))(he:E2≠0) :
  Calls Tryz.prog 68 #[.pointer (some ⟨g,0,none⟩),.int .i64 (k:Int),.bool add] w fun e w'=>e = .returned (.int .i64 E2)∧Below B w w':=by
 have d1:(E2 != 0)=true:=by simpa using he
 have K0:=Lib.hid hO
 have B0:=Lib.hid (Below.refl B w)
 clear hO
 go_enter Tryz.func68,Tryz.ntmps68
 go_wp2_with (first
  | go_skip
  | (go_at_call 65;(with_reducible refine(HNUM.out K0.out).mono ?_);rintro e w1 ⟨rfl,hb,hk⟩;have B1:=Lib.hid (B0.out.trans hb);have K1:=Lib.hid hk;clear hb hk K0 B0;have K1b:=Lib.hid (K1.out.box #[.string ⟨#[]⟩,.string ⟨#[]⟩] 27);have hz:=Lib.hid (K1.out.bz);have B1b:=Lib.hid (B1.out.alloc hz.out (.cells #[.string ⟨#[]⟩,.string ⟨#[]⟩] 27));have hw0:B≤w1.heap.size:=hz.out;clear K1 B1)
  | (go_at_call 91;(with_reducible refine(HT1.out K1b.out).mono ?_);rintro e w2 ⟨rfl,hb,hk⟩;have B2:=Lib.hid (B1b.out.trans hb);have K2:=Lib.hid hk;clear hb hk K1b B1b)
  | (refine at_store 9 (.tmp 36) (.tmp 34) (by rfl) ?_;refine wpList_put (by rfl) 9 (.tmp 36) (.tmp 34) (by rfl) w1.heap.size 0 (.string s1) (by rfl) (by rfl) 27 #[.string ⟨#[]⟩,.string ⟨#[]⟩] #[.string s1,.string ⟨#[]⟩] (K2.out.row0) (by simp[Value.cells]) (by kernel_rfl) infoc_Os (by kernel_rfl) ?_;intro w3 hrow hoth hz2 hbl;have K3:=Lib.hid (K2.out.turn0 hrow hoth hz2);have B3:=Lib.hid (hbl _ _ hw0 B2.out);clear hrow hoth hz2 hbl K2 B2)
  | (go_at_call 91;(with_reducible refine(HT2.out K3.out).mono ?_);rintro e w4 ⟨rfl,hb,hk⟩;have B4:=Lib.hid (B3.out.trans hb);have K4:=Lib.hid hk;clear hb hk K3 B3)
  | (refine at_store 9 (.tmp 45) (.tmp 43) (by rfl) ?_;refine wpList_put (by rfl) 9 (.tmp 45) (.tmp 43) (by rfl) w1.heap.size 1 (.string s2) (by rfl) (by rfl) 27 #[.string s1,.string ⟨#[]⟩] #[.string s1,.string s2] (K4.out.row0) (by simp[Value.cells]) (by kernel_rfl) infoc_Os (by kernel_rfl) ?_;intro w5 hrow hoth hz2 hbl;have K5:=Lib.hid (K4.out.turn0 hrow hoth hz2);have B5:=Lib.hid (hbl _ _ hw0 B4.out);clear hrow hoth hz2 hbl K4 B4))
 go_ret
 exact⟨rfl,B5.out⟩
theorem d_lit_i2{w:World}{fs:List Fact}{gs:List Bx}{i g B:Nat}{M:Int}{xs:List Fd}{ls R R1 R2:List UInt8}{T:List Fd}{V:Nat}{CE E1 E2 GE:Int}{s1 s2 ga gb:ByteArray}(k:Nat)(add:Bool)(hO:OpR w fs gs i g B ⟨M,xs,ls⟩ T)(HNUM:Hid (∀{W:World} {gs:List Bx} {i:Nat},OpR W fs gs i g B ⟨M,xs,ls⟩ T→Calls Tryz.prog 65 #[.pointer (some ⟨g,0,none⟩),.int .i64 (k:Int)] W fun e w'=>e = .returned (.tuple #[.int .i64 (V:Int),.int .i64 0])∧Below B W w'∧OpR w' fs gs i g B ⟨M,xs,R⟩ T))(HAT:Hid (∀(A2:Option Addr) (n2 c2:Nat) (W:World),Fs W W.heap.size A2 n2 xs→Calls Tryz.prog 66 #[.agg #[.int .i64 M,.slice A2 n2 c2],.int .i64 (V:Int)] W fun e w'=>e = .returned (.tuple #[.agg #[.string ga,.string gb],.int .i64 0])∧Below W.heap.size W w'))(HT2:Hid (∀{W:World} {gs:List Bx} {i:Nat},OpR W fs gs i g B ⟨M,xs,R⟩ T→Calls Tryz.prog 91 #[.pointer (some ⟨g,0,none⟩)] W fun e w'=>e = .returned (.tuple #[.string s2,.int .i64 E2])∧Below B W w'∧OpR w' fs gs i g B ⟨M,xs,R2⟩ T))(hV:0<V)(he:E2≠0) :
  Calls Tryz.prog 68 #[.pointer (some ⟨g,0,none⟩),.int .i64 (k:Int),.bool add] w fun e w'=>e = .returned (.int .i64 E2)∧Below B w w':=by
 have d1:(E2 != 0)=true:=by simpa using he
 have dV:decide ((0:Int)<(V:Int))=true:=decide_eq_true (by omega)
 have dV2:decide (0<V)=true:=decide_eq_true hV
 have K0:=Lib.hid hO
 have B0:=Lib.hid (Below.refl B w)
 clear hO
 go_enter Tryz.func68,Tryz.ntmps68
 go_wp2_with (first
  | go_skip
  | (go_at_call 65;(with_reducible refine(HNUM.out K0.out).mono ?_);rintro e w1 ⟨rfl,hb,hk⟩;have B1:=Lib.hid (B0.out.trans hb);have K1:=Lib.hid hk;clear hb hk K0 B0;have K1b:=Lib.hid (K1.out.box #[.string ⟨#[]⟩,.string ⟨#[]⟩] 27);have hz:=Lib.hid (K1.out.bz);have B1b:=Lib.hid (B1.out.alloc hz.out (.cells #[.string ⟨#[]⟩,.string ⟨#[]⟩] 27));have hw0:B≤w1.heap.size:=hz.out;clear K1 B1)
  | (obtain⟨cs,A2,n2,c2,hrow,h3,h4,h6,hF2,hN2⟩:=K1b.out.cells;refine at_load 24 (.tmp 25) (by rfl) ?_;refine wpList_part (by rfl) 24 (.tmp 25) (by rfl) g 3 (by rfl) 67 cs #[.int .i64 M,.slice A2 n2 c2] _ hrow (part2 h3 h4) Tryz.underlying24 (by rfl) infoc_T ?_;have HF2:=Lib.hid hF2;clear hrow h3 h4 h6 hF2 hN2)
  | (go_at_call 66;(with_reducible refine(HAT.out _ _ _ _ HF2.out).mono ?_);rintro e w2 ⟨rfl,hb⟩;have K2:=Lib.hid (K1b.out.on hb);have B2:=Lib.hid (B1b.out.trans (hb.mono K1b.out.bz));clear hb K1b B1b HF2)
  | (refine at_store 27 (.tmp 9) (.tmp 29) (by rfl) ?_;refine wpList_put (by rfl) 27 (.tmp 9) (.tmp 29) (by rfl) w1.heap.size 0 (.agg #[.string ga,.string gb]) (by rfl) (by rfl) 27 #[.string ⟨#[]⟩,.string ⟨#[]⟩] #[.string ga,.string gb] (K2.out.row0) (by simp[Value.cells]) (by kernel_rfl) infoc_D (by kernel_rfl) ?_;intro w3 hrow hoth hz2 hbl;have K3:=Lib.hid (K2.out.turn0 hrow hoth hz2);have B3:=Lib.hid (hbl _ _ hw0 B2.out);clear hrow hoth hz2 hbl K2 B2)
  | (go_at_call 91;(with_reducible refine(HT2.out K3.out).mono ?_);rintro e w4 ⟨rfl,hb,hk⟩;have B4:=Lib.hid (B3.out.trans hb);have K4:=Lib.hid hk;clear hb hk K3 B3)
  | (refine at_store 9 (.tmp 45) (.tmp 43) (by rfl) ?_;refine wpList_put (by rfl) 9 (.tmp 45) (.tmp 43) (by rfl) w1.heap.size 1 (.string s2) (by rfl) (by rfl) 27 #[.string ga,.string gb] #[.string ga,.string s2] (K4.out.row0) (by simp[Value.cells]) (by kernel_rfl) infoc_Os (by kernel_rfl) ?_;intro w5 hrow hoth hz2 hbl;have K5:=Lib.hid (K4.out.turn0 hrow hoth hz2);have B5:=Lib.hid (hbl _ _ hw0 B4.out);clear hrow hoth hz2 hbl K4 B4))
 go_ret
 exact⟨rfl,B5.out⟩
theorem d_lit_t3{w:World}{fs:List Fact}{gs:List Bx}{i g B:Nat}{M:Int}{xs:List Fd}{ls R R1 R2:List UInt8}{T:List Fd}{V:Nat}{CE E1 E2 GE:Int}{s1 s2 ga gb:ByteArray}(k:Nat)(add:Bool)(hO:OpR w fs gs i g B ⟨M,xs,ls⟩ T)(HNUM:Hid (∀{W:World} {gs:List Bx} {i:Nat},OpR W fs gs i g B ⟨M,xs,ls⟩ T→Calls Tryz.prog 65 #[.pointer (some ⟨g,0,none⟩),.int .i64 (k:Int)] W fun e w'=>e = .returned (.tuple #[.int .i64 0,.int .i64 0])∧Below B W w'∧OpR w' fs gs i g B ⟨M,xs,R⟩ T))(HT1:Hid (∀{W:World} {gs:List Bx} {i:Nat},OpR W fs gs i g B ⟨M,xs,R⟩ T→Calls Tryz.prog 91 #[.pointer (some ⟨g,0,none⟩)] W fun e w'=>e = .returned (.tuple #[.string s1,.int .i64 0])∧Below B W w'∧OpR w' fs gs i g B ⟨M,xs,R1⟩ T))(HT2:Hid (∀{W:World} {gs:List Bx} {i:Nat},OpR W fs gs i g B ⟨M,xs,R1⟩ T→Calls Tryz.prog 91 #[.pointer (some ⟨g,0,none⟩)] W fun e w'=>e = .returned (.tuple #[.string s2,.int .i64 0])∧Below B W w'∧OpR w' fs gs i g B ⟨M,xs,R2⟩ T))(HTEL:Hid (∀{W:World} {gs:List Bx} {i:Nat},OpR W fs gs i g B ⟨M,xs,R2⟩ T→Calls Tryz.prog 67 #[.pointer (some ⟨g,0,none⟩),.agg #[.string s1,.string s2]] W fun e w'=>e = .returned (.tuple #[])∧Below B W w'∧OpR w' fs gs i g B ⟨M,xs,R2⟩ (T++[(s1,s2)])))(ha:add=false) :
  Calls Tryz.prog 68 #[.pointer (some ⟨g,0,none⟩),.int .i64 (k:Int),.bool add] w fun e w'=>e = .returned (.int .i64 0)∧Below B w w'∧OpR w' fs gs i g B ⟨M,xs,R2⟩ (T++[(s1,s2)]):=by
 subst ha
 have K0:=Lib.hid hO
 have B0:=Lib.hid (Below.refl B w)
 clear hO
 go_enter Tryz.func68,Tryz.ntmps68
 go_wp2_with (first
  | go_skip
  | (go_at_call 65;(with_reducible refine(HNUM.out K0.out).mono ?_);rintro e w1 ⟨rfl,hb,hk⟩;have B1:=Lib.hid (B0.out.trans hb);have K1:=Lib.hid hk;clear hb hk K0 B0;have K1b:=Lib.hid (K1.out.box #[.string ⟨#[]⟩,.string ⟨#[]⟩] 27);have hz:=Lib.hid (K1.out.bz);have B1b:=Lib.hid (B1.out.alloc hz.out (.cells #[.string ⟨#[]⟩,.string ⟨#[]⟩] 27));have hw0:B≤w1.heap.size:=hz.out;clear K1 B1)
  | (go_at_call 91;(with_reducible refine(HT1.out K1b.out).mono ?_);rintro e w2 ⟨rfl,hb,hk⟩;have B2:=Lib.hid (B1b.out.trans hb);have K2:=Lib.hid hk;clear hb hk K1b B1b)
  | (refine at_store 9 (.tmp 36) (.tmp 34) (by rfl) ?_;refine wpList_put (by rfl) 9 (.tmp 36) (.tmp 34) (by rfl) w1.heap.size 0 (.string s1) (by rfl) (by rfl) 27 #[.string ⟨#[]⟩,.string ⟨#[]⟩] #[.string s1,.string ⟨#[]⟩] (K2.out.row0) (by simp[Value.cells]) (by kernel_rfl) infoc_Os (by kernel_rfl) ?_;intro w3 hrow hoth hz2 hbl;have K3:=Lib.hid (K2.out.turn0 hrow hoth hz2);have B3:=Lib.hid (hbl _ _ hw0 B2.out);clear hrow hoth hz2 hbl K2 B2)
  | (go_at_call 91;(with_reducible refine(HT2.out K3.out).mono ?_);rintro e w4 ⟨rfl,hb,hk⟩;have B4:=Lib.hid (B3.out.trans hb);have K4:=Lib.hid hk;clear hb hk K3 B3)
  | (refine at_store 9 (.tmp 45) (.tmp 43) (by rfl) ?_;refine wpList_put (by rfl) 9 (.tmp 45) (.tmp 43) (by rfl) w1.heap.size 1 (.string s2) (by rfl) (by rfl) 27 #[.string s1,.string ⟨#[]⟩] #[.string s1,.string s2] (K4.out.row0) (by simp[Value.cells]) (by kernel_rfl) infoc_Os (by kernel_rfl) ?_;intro w5 hrow hoth hz2 hbl;have K5:=Lib.hid (K4.out.turn0 hrow hoth hz2);have B5:=Lib.hid (hbl _ _ hw0 B4.out);clear hrow hoth hz2 hbl K4 B4)
  | (refine at_load 27 (.tmp 9) (by rfl) ?_;refine wpListG_row (by rfl) 27 (.tmp 9) (by rfl) w1.heap.size (by rfl) 27 #[.string s1,.string s2] _ (K5.out.row0) Tryz.underlying27 (by rfl) infoc_D ?_)
  | (go_at_call 67;(with_reducible refine(HTEL.out K5.out).mono ?_);rintro e w6 ⟨rfl,hb,hk⟩;have B6:=Lib.hid (B5.out.trans hb);have K6:=Lib.hid hk;clear hb hk K5 B5))
 go_ret
 exact⟨rfl,B6.out,K6.out.drop⟩
theorem d_lit_t4{w:World}{fs:List Fact}{gs:List Bx}{i g B:Nat}{M:Int}{xs:List Fd}{ls R R1 R2:List UInt8}{T:List Fd}{V:Nat}{CE E1 E2 GE:Int}{s1 s2 ga gb:ByteArray}(k:Nat)(add:Bool)(hO:OpR w fs gs i g B ⟨M,xs,ls⟩ T)(HNUM:Hid (∀{W:World} {gs:List Bx} {i:Nat},OpR W fs gs i g B ⟨M,xs,ls⟩ T→Calls Tryz.prog 65 #[.pointer (some ⟨g,0,none⟩),.int .i64 (k:Int)] W fun e w'=>e = .returned (.tuple #[.int .i64 0,.int .i64 0])∧Below B W w'∧OpR w' fs gs i g B ⟨M,xs,R⟩ T))(HT1:Hid (∀{W:World} {gs:List Bx} {i:Nat},OpR W fs gs i g B ⟨M,xs,R⟩ T→Calls Tryz.prog 91 #[.pointer (some ⟨g,0,none⟩)] W fun e w'=>e = .returned (.tuple #[.string s1,.int .i64 0])∧Below B W w'∧OpR w' fs gs i g B ⟨M,xs,R1⟩ T))(HT2:Hid (∀{W:World} {gs:List Bx} {i:Nat},OpR W fs gs i g B ⟨M,xs,R1⟩ T→Calls Tryz.prog 91 #[.pointer (some ⟨g,0,none⟩)] W fun e w'=>e = .returned (.tuple #[.string s2,.int .i64 0])∧Below B W w'∧OpR w' fs gs i g B ⟨M,xs,R2⟩ T))(HTEL:Hid (∀{W:World} {gs:List Bx} {i:Nat},OpR W fs gs i g B ⟨M,xs,R2⟩ T→Calls Tryz.prog 67 #[.pointer (some ⟨g,0,none⟩),.agg #[.string s1,.string s2]] W fun e w'=>e = .returned (.tuple #[])∧Below B W w'∧OpR w' fs gs i g B ⟨M,xs,R2⟩ (T++[(s1,s2)])))(ha:add=true)(hF:full xs≤100000)(hf:sz (s1,s2)≤100000) :
  Calls Tryz.prog 68 #[.pointer (some ⟨g,0,none⟩),.int .i64 (k:Int),.bool add] w fun e w'=>e = .returned (.int .i64 0)∧Below B w w'∧OpR w' fs gs i g B ⟨addM M xs,addL M xs (s1,s2),R2⟩ (T++[(s1,s2)]):=by
 subst ha
 have K0:=Lib.hid hO
 have B0:=Lib.hid (Below.refl B w)
 clear hO
 go_enter Tryz.func68,Tryz.ntmps68
 go_wp2_with (first
  | go_skip
  | (go_at_call 65;(with_reducible refine(HNUM.out K0.out).mono ?_);rintro e w1 ⟨rfl,hb,hk⟩;have B1:=Lib.hid (B0.out.trans hb);have K1:=Lib.hid hk;clear hb hk K0 B0;have K1b:=Lib.hid (K1.out.box #[.string ⟨#[]⟩,.string ⟨#[]⟩] 27);have hz:=Lib.hid (K1.out.bz);have B1b:=Lib.hid (B1.out.alloc hz.out (.cells #[.string ⟨#[]⟩,.string ⟨#[]⟩] 27));have hw0:B≤w1.heap.size:=hz.out;clear K1 B1)
  | (go_at_call 91;(with_reducible refine(HT1.out K1b.out).mono ?_);rintro e w2 ⟨rfl,hb,hk⟩;have B2:=Lib.hid (B1b.out.trans hb);have K2:=Lib.hid hk;clear hb hk K1b B1b)
  | (refine at_store 9 (.tmp 36) (.tmp 34) (by rfl) ?_;refine wpList_put (by rfl) 9 (.tmp 36) (.tmp 34) (by rfl) w1.heap.size 0 (.string s1) (by rfl) (by rfl) 27 #[.string ⟨#[]⟩,.string ⟨#[]⟩] #[.string s1,.string ⟨#[]⟩] (K2.out.row0) (by simp[Value.cells]) (by kernel_rfl) infoc_Os (by kernel_rfl) ?_;intro w3 hrow hoth hz2 hbl;have K3:=Lib.hid (K2.out.turn0 hrow hoth hz2);have B3:=Lib.hid (hbl _ _ hw0 B2.out);clear hrow hoth hz2 hbl K2 B2)
  | (go_at_call 91;(with_reducible refine(HT2.out K3.out).mono ?_);rintro e w4 ⟨rfl,hb,hk⟩;have B4:=Lib.hid (B3.out.trans hb);have K4:=Lib.hid hk;clear hb hk K3 B3)
  | (refine at_store 9 (.tmp 45) (.tmp 43) (by rfl) ?_;refine wpList_put (by rfl) 9 (.tmp 45) (.tmp 43) (by rfl) w1.heap.size 1 (.string s2) (by rfl) (by rfl) 27 #[.string s1,.string ⟨#[]⟩] #[.string s1,.string s2] (K4.out.row0) (by simp[Value.cells]) (by kernel_rfl) infoc_Os (by kernel_rfl) ?_;intro w5 hrow hoth hz2 hbl;have K5:=Lib.hid (K4.out.turn0 hrow hoth hz2);have B5:=Lib.hid (hbl _ _ hw0 B4.out);clear hrow hoth hz2 hbl K4 B4)
  | (refine at_load 27 (.tmp 9) (by rfl) ?_;refine wpListG_row (by rfl) 27 (.tmp 9) (by rfl) w1.heap.size (by rfl) 27 #[.string s1,.string s2] _ (K5.out.row0) Tryz.underlying27 (by rfl) infoc_D ?_)
  | (go_at_call 67;(with_reducible refine(HTEL.out K5.out).mono ?_);rintro e w6 ⟨rfl,hb,hk⟩;have B6:=Lib.hid (B5.out.trans hb);have K6:=Lib.hid hk;clear hb hk K5 B5))
 obtain⟨q1,q2,LA,ln,lc,A,n,c,v,lb,q3,q4,q5,q6,q7⟩:=K6.out
 have hbz:=K6.out.bz
 have hix:=List.getElem?_set_self (a:=(g,opc LA ln lc v (decide (2000<full (T++[(s1,s2)]))) M A n c (full (T++[(s1,s2)])) (!(T++[(s1,s2)]).isEmpty),67)) q2
 refine l15_region (k:=0) (ixl hix) rfl (List.mem_cons_self ..) q1 hbz (d_add_hid q6 hF hf rfl rfl rfl rfl) (fun A2 c2 w9 hE hc2 hb=>?_) q7 (Below.refl B _)
 have B9:=Lib.hid (B6.out.trans hb)
 rw[set_left (by simpa using q2),List.set_set] at hE
 have K9:OpR w9 fs ((w1.heap.size,#[.string s1,.string s2],27)::gs) (i+1) g B ⟨addM M xs,addL M xs (s1,s2),R2⟩ (T++[(s1,s2)]):=⟨q1,q2,LA,ln,lc,A2,_,c2,v,lb,q3,q4,q5,hc2,hE.sub (fun x hx=>by simp only[List.mem_cons] at hx ⊢;rcases hx with rfl | rfl | hx<;>simp[*]) (List.Sublist.refl _)⟩
 have K9':=Lib.hid K9.drop
 clear K9 hE hb q7
 go_wp2
 go_ret
 exact⟨rfl,B9.out,K9'.out⟩
theorem d_lit_i3{w:World}{fs:List Fact}{gs:List Bx}{i g B:Nat}{M:Int}{xs:List Fd}{ls R R1 R2:List UInt8}{T:List Fd}{V:Nat}{CE E1 E2 GE:Int}{s1 s2 ga gb:ByteArray}(k:Nat)(add:Bool)(hO:OpR w fs gs i g B ⟨M,xs,ls⟩ T)(HNUM:Hid (∀{W:World} {gs:List Bx} {i:Nat},OpR W fs gs i g B ⟨M,xs,ls⟩ T→Calls Tryz.prog 65 #[.pointer (some ⟨g,0,none⟩),.int .i64 (k:Int)] W fun e w'=>e = .returned (.tuple #[.int .i64 (V:Int),.int .i64 0])∧Below B W w'∧OpR w' fs gs i g B ⟨M,xs,R⟩ T))(HAT:Hid (∀(A2:Option Addr) (n2 c2:Nat) (W:World),Fs W W.heap.size A2 n2 xs→Calls Tryz.prog 66 #[.agg #[.int .i64 M,.slice A2 n2 c2],.int .i64 (V:Int)] W fun e w'=>e = .returned (.tuple #[.agg #[.string ga,.string gb],.int .i64 0])∧Below W.heap.size W w'))(HT2:Hid (∀{W:World} {gs:List Bx} {i:Nat},OpR W fs gs i g B ⟨M,xs,R⟩ T→Calls Tryz.prog 91 #[.pointer (some ⟨g,0,none⟩)] W fun e w'=>e = .returned (.tuple #[.string s2,.int .i64 0])∧Below B W w'∧OpR w' fs gs i g B ⟨M,xs,R2⟩ T))(hV:0<V)(HTEL:Hid (∀{W:World} {gs:List Bx} {i:Nat},OpR W fs gs i g B ⟨M,xs,R2⟩ T→Calls Tryz.prog 67 #[.pointer (some ⟨g,0,none⟩),.agg #[.string ga,.string s2]] W fun e w'=>e = .returned (.tuple #[])∧Below B W w'∧OpR w' fs gs i g B ⟨M,xs,R2⟩ (T++[(ga,s2)])))(ha:add=false) :
  Calls Tryz.prog 68 #[.pointer (some ⟨g,0,none⟩),.int .i64 (k:Int),.bool add] w fun e w'=>e = .returned (.int .i64 0)∧Below B w w'∧OpR w' fs gs i g B ⟨M,xs,R2⟩ (T++[(ga,s2)]):=by
 subst ha
 have dV:decide ((0:Int)<(V:Int))=true:=decide_eq_true (by omega)
 have dV2:decide (0<V)=true:=decide_eq_true hV
 have K0:=Lib.hid hO
 have B0:=Lib.hid (Below.refl B w)
 clear hO
 go_enter Tryz.func68,Tryz.ntmps68
 go_wp2_with (first
  | go_skip
  | (go_at_call 65;(with_reducible refine(HNUM.out K0.out).mono ?_);rintro e w1 ⟨rfl,hb,hk⟩;have B1:=Lib.hid (B0.out.trans hb);have K1:=Lib.hid hk;clear hb hk K0 B0;have K1b:=Lib.hid (K1.out.box #[.string ⟨#[]⟩,.string ⟨#[]⟩] 27);have hz:=Lib.hid (K1.out.bz);have B1b:=Lib.hid (B1.out.alloc hz.out (.cells #[.string ⟨#[]⟩,.string ⟨#[]⟩] 27));have hw0:B≤w1.heap.size:=hz.out;clear K1 B1)
  | (obtain⟨cs,A2,n2,c2,hrow,h3,h4,h6,hF2,hN2⟩:=K1b.out.cells;refine at_load 24 (.tmp 25) (by rfl) ?_;refine wpList_part (by rfl) 24 (.tmp 25) (by rfl) g 3 (by rfl) 67 cs #[.int .i64 M,.slice A2 n2 c2] _ hrow (part2 h3 h4) Tryz.underlying24 (by rfl) infoc_T ?_;have HF2:=Lib.hid hF2;clear hrow h3 h4 h6 hF2 hN2)
  | (go_at_call 66;(with_reducible refine(HAT.out _ _ _ _ HF2.out).mono ?_);rintro e w2 ⟨rfl,hb⟩;have K2:=Lib.hid (K1b.out.on hb);have B2:=Lib.hid (B1b.out.trans (hb.mono K1b.out.bz));clear hb K1b B1b HF2)
  | (refine at_store 27 (.tmp 9) (.tmp 29) (by rfl) ?_;refine wpList_put (by rfl) 27 (.tmp 9) (.tmp 29) (by rfl) w1.heap.size 0 (.agg #[.string ga,.string gb]) (by rfl) (by rfl) 27 #[.string ⟨#[]⟩,.string ⟨#[]⟩] #[.string ga,.string gb] (K2.out.row0) (by simp[Value.cells]) (by kernel_rfl) infoc_D (by kernel_rfl) ?_;intro w3 hrow hoth hz2 hbl;have K3:=Lib.hid (K2.out.turn0 hrow hoth hz2);have B3:=Lib.hid (hbl _ _ hw0 B2.out);clear hrow hoth hz2 hbl K2 B2)
  | (go_at_call 91;(with_reducible refine(HT2.out K3.out).mono ?_);rintro e w4 ⟨rfl,hb,hk⟩;have B4:=Lib.hid (B3.out.trans hb);have K4:=Lib.hid hk;clear hb hk K3 B3)
  | (refine at_store 9 (.tmp 45) (.tmp 43) (by rfl) ?_;refine wpList_put (by rfl) 9 (.tmp 45) (.tmp 43) (by rfl) w1.heap.size 1 (.string s2) (by rfl) (by rfl) 27 #[.string ga,.string gb] #[.string ga,.string s2] (K4.out.row0) (by simp[Value.cells]) (by kernel_rfl) infoc_Os (by kernel_rfl) ?_;intro w5 hrow hoth hz2 hbl;have K5:=Lib.hid (K4.out.turn0 hrow hoth hz2);have B5:=Lib.hid (hbl _ _ hw0 B4.out);clear hrow hoth hz2 hbl K4 B4)
  | (refine at_load 27 (.tmp 9) (by rfl) ?_;refine wpListG_row (by rfl) 27 (.tmp 9) (by rfl) w1.heap.size (by rfl) 27 #[.string ga,.string s2] _ (K5.out.row0) Tryz.underlying27 (by rfl) infoc_D ?_)
  | (go_at_call 67;(with_reducible refine(HTEL.out K5.out).mono ?_);rintro e w6 ⟨rfl,hb,hk⟩;have B6:=Lib.hid (B5.out.trans hb);have K6:=Lib.hid hk;clear hb hk K5 B5))
 go_ret
 exact⟨rfl,B6.out,K6.out.drop⟩
theorem d_lit_i4{w:World}{fs:List Fact}{gs:List Bx}{i g B:Nat}{M:Int}{xs:List Fd}{ls R R1 R2:List UInt8}{T:List Fd}{V:Nat}{CE E1 E2 GE:Int}{s1 s2 ga gb:ByteArray}(k:Nat)(add:Bool)(hO:OpR w fs gs i g B ⟨M,xs,ls⟩ T)(HNUM:Hid (∀{W:World} {gs:List Bx} {i:Nat},OpR W fs gs i g B ⟨M,xs,ls⟩ T→Calls Tryz.prog 65 #[.pointer (some ⟨g,0,none⟩),.int .i64 (k:Int)] W fun e w'=>e = .returned (.tuple #[.int .i64 (V:Int),.int .i64 0])∧Below B W w'∧OpR w' fs gs i g B ⟨M,xs,R⟩ T))(HAT:Hid (∀(A2:Option Addr) (n2 c2:Nat) (W:World),Fs W W.heap.size A2 n2 xs→Calls Tryz.prog 66 #[.agg #[.int .i64 M,.slice A2 n2 c2],.int .i64 (V:Int)] W fun e w'=>e = .returned (.tuple #[.agg #[.string ga,.string gb],.int .i64 0])∧Below W.heap.size W w'))(HT2:Hid (∀{W:World} {gs:List Bx} {i:Nat},OpR W fs gs i g B ⟨M,xs,R⟩ T→Calls Tryz.prog 91 #[.pointer (some ⟨g,0,none⟩)] W fun e w'=>e = .returned (.tuple #[.string s2,.int .i64 0])∧Below B W w'∧OpR w' fs gs i g B ⟨M,xs,R2⟩ T))(hV:0<V)(HTEL:Hid (∀{W:World} {gs:List Bx} {i:Nat},OpR W fs gs i g B ⟨M,xs,R2⟩ T→Calls Tryz.prog 67 #[.pointer (some ⟨g,0,none⟩),.agg #[.string ga,.string s2]] W fun e w'=>e = .returned (.tuple #[])∧Below B W w'∧OpR w' fs gs i g B ⟨M,xs,R2⟩ (T++[(ga,s2)])))(ha:add=true)(hF:full xs≤100000)(hf:sz (ga,s2)≤100000) :
  Calls Tryz.prog 68 #[.pointer (some ⟨g,0,none⟩),.int .i64 (k:Int),.bool add] w fun e w'=>e = .returned (.int .i64 0)∧Below B w w'∧OpR w' fs gs i g B ⟨addM M xs,addL M xs (ga,s2),R2⟩ (T++[(ga,s2)]):=by
 subst ha
 have dV:decide ((0:Int)<(V:Int))=true:=decide_eq_true (by omega)
 have dV2:decide (0<V)=true:=decide_eq_true hV
 have K0:=Lib.hid hO
 have B0:=Lib.hid (Below.refl B w)
 clear hO
 go_enter Tryz.func68,Tryz.ntmps68
 go_wp2_with (first
  | go_skip
  | (go_at_call 65;(with_reducible refine(HNUM.out K0.out).mono ?_);rintro e w1 ⟨rfl,hb,hk⟩;have B1:=Lib.hid (B0.out.trans hb);have K1:=Lib.hid hk;clear hb hk K0 B0;have K1b:=Lib.hid (K1.out.box #[.string ⟨#[]⟩,.string ⟨#[]⟩] 27);have hz:=Lib.hid (K1.out.bz);have B1b:=Lib.hid (B1.out.alloc hz.out (.cells #[.string ⟨#[]⟩,.string ⟨#[]⟩] 27));have hw0:B≤w1.heap.size:=hz.out;clear K1 B1)
  | (obtain⟨cs,A2,n2,c2,hrow,h3,h4,h6,hF2,hN2⟩:=K1b.out.cells;refine at_load 24 (.tmp 25) (by rfl) ?_;refine wpList_part (by rfl) 24 (.tmp 25) (by rfl) g 3 (by rfl) 67 cs #[.int .i64 M,.slice A2 n2 c2] _ hrow (part2 h3 h4) Tryz.underlying24 (by rfl) infoc_T ?_;have HF2:=Lib.hid hF2;clear hrow h3 h4 h6 hF2 hN2)
  | (go_at_call 66;(with_reducible refine(HAT.out _ _ _ _ HF2.out).mono ?_);rintro e w2 ⟨rfl,hb⟩;have K2:=Lib.hid (K1b.out.on hb);have B2:=Lib.hid (B1b.out.trans (hb.mono K1b.out.bz));clear hb K1b B1b HF2)
  | (refine at_store 27 (.tmp 9) (.tmp 29) (by rfl) ?_;refine wpList_put (by rfl) 27 (.tmp 9) (.tmp 29) (by rfl) w1.heap.size 0 (.agg #[.string ga,.string gb]) (by rfl) (by rfl) 27 #[.string ⟨#[]⟩,.string ⟨#[]⟩] #[.string ga,.string gb] (K2.out.row0) (by simp[Value.cells]) (by kernel_rfl) infoc_D (by kernel_rfl) ?_;intro w3 hrow hoth hz2 hbl;have K3:=Lib.hid (K2.out.turn0 hrow hoth hz2);have B3:=Lib.hid (hbl _ _ hw0 B2.out);clear hrow hoth hz2 hbl K2 B2)
  | (go_at_call 91;(with_reducible refine(HT2.out K3.out).mono ?_);rintro e w4 ⟨rfl,hb,hk⟩;have B4:=Lib.hid (B3.out.trans hb);have K4:=Lib.hid hk;clear hb hk K3 B3)
  | (refine at_store 9 (.tmp 45) (.tmp 43) (by rfl) ?_;refine wpList_put (by rfl) 9 (.tmp 45) (.tmp 43) (by rfl) w1.heap.size 1 (.string s2) (by rfl) (by rfl) 27 #[.string ga,.string gb] #[.string ga,.string s2] (K4.out.row0) (by simp[Value.cells]) (by kernel_rfl) infoc_Os (by kernel_rfl) ?_;intro w5 hrow hoth hz2 hbl;have K5:=Lib.hid (K4.out.turn0 hrow hoth hz2);have B5:=Lib.hid (hbl _ _ hw0 B4.out);clear hrow hoth hz2 hbl K4 B4)
  | (refine at_load 27 (.tmp 9) (by rfl) ?_;refine wpListG_row (by rfl) 27 (.tmp 9) (by rfl) w1.heap.size (by rfl) 27 #[.string ga,.string s2] _ (K5.out.row0) Tryz.underlying27 (by rfl) infoc_D ?_)
  | (go_at_call 67;(with_reducible refine(HTEL.out K5.out).mono ?_);rintro e w6 ⟨rfl,hb,hk⟩;have B6:=Lib.hid (B5.out.trans hb);have K6:=Lib.hid hk;clear hb hk K5 B5))
 obtain⟨q1,q2,LA,ln,lc,A,n,c,v,lb,q3,q4,q5,q6,q7⟩:=K6.out
 have hbz:=K6.out.bz
 have hix:=List.getElem?_set_self (a:=(g,opc LA ln lc v (decide (2000<full (T++[(ga,s2)]))) M A n c (full (T++[(ga,s2)])) (!(T++[(ga,s2)]).isEmpty),67)) q2
 refine l15_region (k:=0) (ixl hix) rfl (List.mem_cons_self ..) q1 hbz (d_add_hid q6 hF hf rfl rfl rfl rfl) (fun A2 c2 w9 hE hc2 hb=>?_) q7 (Below.refl B _)
 have B9:=Lib.hid (B6.out.trans hb)
 rw[set_left (by simpa using q2),List.set_set] at hE
 have K9:OpR w9 fs ((w1.heap.size,#[.string ga,.string s2],27)::gs) (i+1) g B ⟨addM M xs,addL M xs (ga,s2),R2⟩ (T++[(ga,s2)]):=⟨q1,q2,LA,ln,lc,A2,_,c2,v,lb,q3,q4,q5,hc2,hE.sub (fun x hx=>by simp only[List.mem_cons] at hx ⊢;rcases hx with rfl | rfl | hx<;>simp[*]) (List.Sublist.refl _)⟩
 have K9':=Lib.hid K9.drop
 clear K9 hE hb q7
 go_wp2
 go_ret
 exact⟨rfl,B9.out,K9'.out⟩
end Go.Proofs.YtahiajeggbpogaaGreatDoor
