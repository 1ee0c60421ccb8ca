import Derived.Test.YtahiajeggbpogaaGreatDoorUpOe
set_option maxRecDepth 100000
set_option maxHeartbeats 4000000
namespace Go.Proofs.YtahiajeggbpogaaGreatDoor
open Go.RowKit Go.Shelf Px Tx Tb Up GD
set_option linter.unusedVariables false
set_option linter.unusedSimpArgs false
attribute [local go_sem] Oper.semAt_some
theorem Up.OpR.first{w:World}{fs:List Fact}{gs:List Bx}{i g B:Nat}{M:Int}{xs:List Fd}{x:UInt8}{l:List UInt8}{T:List Fd}(h:OpR w fs gs i g B ⟨M,xs,x::l⟩ T) :
  ∃cs q o ln lc,w.heap[g]? = some (.cells cs 67)∧cs[0]? = some (.slice (some ⟨q,o,none⟩) ln lc)∧w.cell? ⟨q,o,none⟩=some (.int .u8 (x.toNat:Int))∧0<ln:=by
 obtain⟨cs,LA,ln,lc,h1,h2,h3,h4⟩:=h.left
 have hn:0<ln:=by have:=h3.1;simp at this;omega
 obtain⟨q,o,rfl,_,hc⟩:=bs_cell h3 hn
 obtain⟨y,hy,h5⟩:=hc 0 hn
 simp only[List.getElem?_cons_zero,Option.some.injEq] at hy
 subst hy
 exact⟨cs,q,o,ln,lc,h1,h2,h5,hn⟩
theorem d_one_6{w:World}{fs:List Fact}{gs:List Bx}{i g B:Nat}{M:Int}{xs:List Fd}{x:UInt8}{l R:List UInt8}{T:List Fd}{V:Nat}{CE GE:Int}{ga gb:ByteArray}(most:Int)(hO:OpR w fs gs i g B ⟨M,xs,x::l⟩ T){Z:Int→World→Prop}(HL:Hid (∀{W:World},OpR W fs gs i g B ⟨M,xs,x::l⟩ T→Calls Tryz.prog 68 #[.pointer (some ⟨g,0,none⟩),.int .i64 6,.bool true] W fun e w'=>∃E,e = .returned (.int .i64 E)∧Below B W w'∧Z E w'))(h1:x.toNat<128)(h2:64≤x.toNat) :
  Calls Tryz.prog 44 #[.pointer (some ⟨g,0,none⟩),.int .i64 most] w fun e w'=>∃E,e = .returned (.int .i64 E)∧Below B w w'∧Z E w':=by
 have a128:decide ((128:Int)≤(x.toNat:Int))=false:=decide_eq_false (by omega)
 have b128:decide (128≤x.toNat)=false:=decide_eq_false (by omega)
 have a64:decide ((64:Int)≤(x.toNat:Int))=true:=decide_eq_true (by omega)
 have b64:decide (64≤x.toNat)=true:=decide_eq_true (by omega)
 obtain⟨cs,q,o,ln,lc,hrow,hc0,hx0,hln⟩:=hO.first
 have HROW:=Lib.hid hrow
 have HC0:=Lib.hid hc0
 have B0:=Lib.hid (Below.refl B w)
 have K0:=Lib.hid hO
 clear hO hrow hc0
 go_enter Tryz.func44,Tryz.ntmps44
 go_wp2_with (first
  | go_skip
  | (refine at_load 25 (.tmp 12) (by rfl) ?_;refine wpList_get (by rfl) 25 (.tmp 12) (by rfl) g 0 (by rfl) 67 cs (.slice (some ⟨q,o,none⟩) ln lc) _ HROW.out HC0.out Tryz.underlying25 (by rfl) ?_)
  | (go_at_call 68;(with_reducible refine(HL.out K0.out).mono ?_);rintro e w1 ⟨E,rfl,hb,hk⟩;have HZ:=Lib.hid hk;have B1:=Lib.hid (B0.out.trans hb);clear hb hk))
 go_ret
 exact⟨E,rfl,B1.out,HZ.out⟩
theorem d_one_5{w:World}{fs:List Fact}{gs:List Bx}{i g B:Nat}{M:Int}{xs:List Fd}{x:UInt8}{l R:List UInt8}{T:List Fd}{V:Nat}{CE GE:Int}{ga gb:ByteArray}(most:Int)(hO:OpR w fs gs i g B ⟨M,xs,x::l⟩ T){Z:Int→World→Prop}(HL:Hid (∀{W:World},OpR W fs gs i g B ⟨M,xs,x::l⟩ T→Calls Tryz.prog 69 #[.pointer (some ⟨g,0,none⟩),.int .i64 most] W fun e w'=>∃E,e = .returned (.int .i64 E)∧Below B W w'∧Z E w'))(h1:x.toNat<64)(h2:32≤x.toNat) :
  Calls Tryz.prog 44 #[.pointer (some ⟨g,0,none⟩),.int .i64 most] w fun e w'=>∃E,e = .returned (.int .i64 E)∧Below B w w'∧Z E w':=by
 have a128:decide ((128:Int)≤(x.toNat:Int))=false:=decide_eq_false (by omega)
 have b128:decide (128≤x.toNat)=false:=decide_eq_false (by omega)
 have a64:decide ((64:Int)≤(x.toNat:Int))=false:=decide_eq_false (by omega)
 have b64:decide (64≤x.toNat)=false:=decide_eq_false (by omega)
 have a32:decide ((32:Int)≤(x.toNat:Int))=true:=decide_eq_true (by omega)
 have b32:decide (32≤x.toNat)=true:=decide_eq_true (by omega)
 obtain⟨cs,q,o,ln,lc,hrow,hc0,hx0,hln⟩:=hO.first
 have HROW:=Lib.hid hrow
 have HC0:=Lib.hid hc0
 have B0:=Lib.hid (Below.refl B w)
 have K0:=Lib.hid hO
 clear hO hrow hc0
 go_enter Tryz.func44,Tryz.ntmps44
 go_wp2_with (first
  | go_skip
  | (refine at_load 25 (.tmp 12) (by rfl) ?_;refine wpList_get (by rfl) 25 (.tmp 12) (by rfl) g 0 (by rfl) 67 cs (.slice (some ⟨q,o,none⟩) ln lc) _ HROW.out HC0.out Tryz.underlying25 (by rfl) ?_)
  | (go_at_call 69;(with_reducible refine(HL.out K0.out).mono ?_);rintro e w1 ⟨E,rfl,hb,hk⟩;have HZ:=Lib.hid hk;have B1:=Lib.hid (B0.out.trans hb);clear hb hk))
 go_ret
 exact⟨E,rfl,B1.out,HZ.out⟩
theorem d_one_4{w:World}{fs:List Fact}{gs:List Bx}{i g B:Nat}{M:Int}{xs:List Fd}{x:UInt8}{l R:List UInt8}{T:List Fd}{V:Nat}{CE GE:Int}{ga gb:ByteArray}(most:Int)(hO:OpR w fs gs i g B ⟨M,xs,x::l⟩ T){Z:Int→World→Prop}(HL:Hid (∀{W:World},OpR W fs gs i g B ⟨M,xs,x::l⟩ T→Calls Tryz.prog 68 #[.pointer (some ⟨g,0,none⟩),.int .i64 4,.bool false] W fun e w'=>∃E,e = .returned (.int .i64 E)∧Below B W w'∧Z E w'))(h1:x.toNat<32) :
  Calls Tryz.prog 44 #[.pointer (some ⟨g,0,none⟩),.int .i64 most] w fun e w'=>∃E,e = .returned (.int .i64 E)∧Below B w w'∧Z E w':=by
 have a128:decide ((128:Int)≤(x.toNat:Int))=false:=decide_eq_false (by omega)
 have b128:decide (128≤x.toNat)=false:=decide_eq_false (by omega)
 have a64:decide ((64:Int)≤(x.toNat:Int))=false:=decide_eq_false (by omega)
 have b64:decide (64≤x.toNat)=false:=decide_eq_false (by omega)
 have a32:decide ((32:Int)≤(x.toNat:Int))=false:=decide_eq_false (by omega)
 have b32:decide (32≤x.toNat)=false:=decide_eq_false (by omega)
 obtain⟨cs,q,o,ln,lc,hrow,hc0,hx0,hln⟩:=hO.first
 have HROW:=Lib.hid hrow
 have HC0:=Lib.hid hc0
 have B0:=Lib.hid (Below.refl B w)
 have K0:=Lib.hid hO
 clear hO hrow hc0
 go_enter Tryz.func44,Tryz.ntmps44
 go_wp2_with (first
  | go_skip
  | (refine at_load 25 (.tmp 12) (by rfl) ?_;refine wpList_get (by rfl) 25 (.tmp 12) (by rfl) g 0 (by rfl) 67 cs (.slice (some ⟨q,o,none⟩) ln lc) _ HROW.out HC0.out Tryz.underlying25 (by rfl) ?_)
  | (go_at_call 68;(with_reducible refine(HL.out K0.out).mono ?_);rintro e w1 ⟨E,rfl,hb,hk⟩;have HZ:=Lib.hid hk;have B1:=Lib.hid (B0.out.trans hb);clear hb hk))
 go_ret
 exact⟨E,rfl,B1.out,HZ.out⟩
theorem d_one_7n{w:World}{fs:List Fact}{gs:List Bx}{i g B:Nat}{M:Int}{xs:List Fd}{x:UInt8}{l R:List UInt8}{T:List Fd}{V:Nat}{CE GE:Int}{ga gb:ByteArray}(most:Int)(hO:OpR w fs gs i g B ⟨M,xs,x::l⟩ T)(HNUM:Hid (∀{W:World} {gs:List Bx} {i:Nat},OpR W fs gs i g B ⟨M,xs,x::l⟩ T→Calls Tryz.prog 65 #[.pointer (some ⟨g,0,none⟩),.int .i64 7] W fun e w'=>e = .returned (.tuple #[.int .i64 (V:Int),.int .i64 CE])∧Below B W w'∧OpR w' fs gs i g B ⟨M,xs,R⟩ T))(he:CE≠0)(h1:128≤x.toNat) :
  Calls Tryz.prog 44 #[.pointer (some ⟨g,0,none⟩),.int .i64 most] w fun e w'=>e = .returned (.int .i64 CE)∧Below B w w':=by
 have a128:decide ((128:Int)≤(x.toNat:Int))=true:=decide_eq_true (by omega)
 have b128:decide (128≤x.toNat)=true:=decide_eq_true (by omega)
 obtain⟨cs,q,o,ln,lc,hrow,hc0,hx0,hln⟩:=hO.first
 have HROW:=Lib.hid hrow
 have HC0:=Lib.hid hc0
 have B0:=Lib.hid (Below.refl B w)
 have K0:=Lib.hid hO
 clear hO hrow hc0
 go_enter Tryz.func44,Tryz.ntmps44
 have d1:(CE != 0)=true:=by simpa using he
 go_wp2_with (first
  | go_skip
  | (refine at_load 25 (.tmp 12) (by rfl) ?_;refine wpList_get (by rfl) 25 (.tmp 12) (by rfl) g 0 (by rfl) 67 cs (.slice (some ⟨q,o,none⟩) ln lc) _ HROW.out HC0.out Tryz.underlying25 (by rfl) ?_)
  | (go_at_call 65;(with_reducible refine(HNUM.out K0.out).mono ?_);rintro e w1 ⟨rfl,hb,hk⟩;have B1:=Lib.hid (B0.out.trans hb);have K1:=Lib.hid hk;clear hb hk K0 B0))
 go_ret
 exact⟨rfl,B1.out⟩
theorem d_one_7e{w:World}{fs:List Fact}{gs:List Bx}{i g B:Nat}{M:Int}{xs:List Fd}{x:UInt8}{l R:List UInt8}{T:List Fd}{V:Nat}{CE GE:Int}{ga gb:ByteArray}(most:Int)(hO:OpR w fs gs i g B ⟨M,xs,x::l⟩ T)(HNUM:Hid (∀{W:World} {gs:List Bx} {i:Nat},OpR W fs gs i g B ⟨M,xs,x::l⟩ T→Calls Tryz.prog 65 #[.pointer (some ⟨g,0,none⟩),.int .i64 7] W fun e w'=>e = .returned (.tuple #[.int .i64 (V:Int),.int .i64 0])∧Below B W w'∧OpR w' fs gs i g B ⟨M,xs,R⟩ T))(HAT:Hid (∀(A2:Option Addr) (n2 c2:Nat) (W:World),Fs W W.heap.size A2 n2 xs→Calls Tryz.prog 66 #[.agg #[.int .i64 M,.slice A2 n2 c2],.int .i64 (V:Int)] W fun e w'=>e = .returned (.tuple #[.agg #[.string ga,.string gb],.int .i64 GE])∧Below W.heap.size W w'))(he:GE≠0)(h1:128≤x.toNat) :
  Calls Tryz.prog 44 #[.pointer (some ⟨g,0,none⟩),.int .i64 most] w fun e w'=>e = .returned (.int .i64 GE)∧Below B w w':=by
 have a128:decide ((128:Int)≤(x.toNat:Int))=true:=decide_eq_true (by omega)
 have b128:decide (128≤x.toNat)=true:=decide_eq_true (by omega)
 obtain⟨cs,q,o,ln,lc,hrow,hc0,hx0,hln⟩:=hO.first
 have HROW:=Lib.hid hrow
 have HC0:=Lib.hid hc0
 have B0:=Lib.hid (Below.refl B w)
 have K0:=Lib.hid hO
 clear hO hrow hc0
 go_enter Tryz.func44,Tryz.ntmps44
 have d1:(GE==0)=false:=by simpa using he
 go_wp2_with (first
  | go_skip
  | (refine at_load 25 (.tmp 12) (by rfl) ?_;refine wpList_get (by rfl) 25 (.tmp 12) (by rfl) g 0 (by rfl) 67 cs (.slice (some ⟨q,o,none⟩) ln lc) _ HROW.out HC0.out Tryz.underlying25 (by rfl) ?_)
  | (go_at_call 65;(with_reducible refine(HNUM.out K0.out).mono ?_);rintro e w1 ⟨rfl,hb,hk⟩;have B1:=Lib.hid (B0.out.trans hb);have K1:=Lib.hid hk;clear hb hk K0 B0)
  | (obtain⟨cs3,A2,n2,c2,hrow,h3,h4,h6,hF2,hN2⟩:=K1.out.cells;refine at_load 24 (.tmp 31) (by rfl) ?_;refine wpList_part (by rfl) 24 (.tmp 31) (by rfl) g 3 (by rfl) 67 cs3 #[.int .i64 M,.slice A2 n2 c2] _ hrow (part2 h3 h4) Tryz.underlying24 (by rfl) infoc_T ?_;have HF2:=Lib.hid hF2;clear hrow h3 h4 h6 hF2 hN2)
  | (go_at_call 66;(with_reducible refine(HAT.out _ _ _ _ HF2.out).mono ?_);rintro e w2 ⟨rfl,hb⟩;have K2:=Lib.hid (K1.out.on hb);have B2:=Lib.hid (B1.out.trans (hb.mono K1.out.bz));have K2b:=Lib.hid (K2.out.box #[.string ⟨#[]⟩,.string ⟨#[]⟩] 27);have hw0:B≤w2.heap.size:=K2.out.bz;have B2b:=Lib.hid (B2.out.alloc hw0 (.cells #[.string ⟨#[]⟩,.string ⟨#[]⟩] 27));clear hb K1 B1 HF2 K2 B2)
  | (refine at_store 27 (.tmp 8) (.tmp 35) (by rfl) ?_;refine wpList_put (by rfl) 27 (.tmp 8) (.tmp 35) (by rfl) w2.heap.size 0 (.agg #[.string ga,.string gb]) (by rfl) (by rfl) 27 #[.string ⟨#[]⟩,.string ⟨#[]⟩] #[.string ga,.string gb] (K2b.out.row0) (by simp[Value.cells]) (by kernel_rfl) infoc_D (by kernel_rfl) ?_;intro w3 hrow hoth hz2 hbl;have K3:=Lib.hid (K2b.out.turn0 hrow hoth hz2);have B3:=Lib.hid (hbl _ _ hw0 B2b.out);clear hrow hoth hz2 hbl K2b B2b))
 go_ret
 exact⟨rfl,B3.out⟩
theorem d_one_7y{w:World}{fs:List Fact}{gs:List Bx}{i g B:Nat}{M:Int}{xs:List Fd}{x:UInt8}{l R:List UInt8}{T:List Fd}{V:Nat}{CE GE:Int}{ga gb:ByteArray}(most:Int)(hO:OpR w fs gs i g B ⟨M,xs,x::l⟩ T)(HNUM:Hid (∀{W:World} {gs:List Bx} {i:Nat},OpR W fs gs i g B ⟨M,xs,x::l⟩ T→Calls Tryz.prog 65 #[.pointer (some ⟨g,0,none⟩),.int .i64 7] W fun e w'=>e = .returned (.tuple #[.int .i64 (V:Int),.int .i64 0])∧Below B W w'∧OpR w' fs gs i g B ⟨M,xs,R⟩ T))(HAT:Hid (∀(A2:Option Addr) (n2 c2:Nat) (W:World),Fs W W.heap.size A2 n2 xs→Calls Tryz.prog 66 #[.agg #[.int .i64 M,.slice A2 n2 c2],.int .i64 (V:Int)] W fun e w'=>e = .returned (.tuple #[.agg #[.string ga,.string gb],.int .i64 0])∧Below W.heap.size W w'))(HTEL:Hid (∀{W:World} {gs:List Bx} {i:Nat},OpR W fs gs i g B ⟨M,xs,R⟩ T→Calls Tryz.prog 67 #[.pointer (some ⟨g,0,none⟩),.agg #[.string ga,.string gb]] W fun e w'=>e = .returned (.tuple #[])∧Below B W w'∧OpR w' fs gs i g B ⟨M,xs,R⟩ (T++[(ga,gb)])))(h1:128≤x.toNat) :
  Calls Tryz.prog 44 #[.pointer (some ⟨g,0,none⟩),.int .i64 most] w fun e w'=>e = .returned (.int .i64 0)∧Below B w w'∧OpR w' fs gs i g B ⟨M,xs,R⟩ (T++[(ga,gb)]):=by
 have a128:decide ((128:Int)≤(x.toNat:Int))=true:=decide_eq_true (by omega)
 have b128:decide (128≤x.toNat)=true:=decide_eq_true (by omega)
 obtain⟨cs,q,o,ln,lc,hrow,hc0,hx0,hln⟩:=hO.first
 have HROW:=Lib.hid hrow
 have HC0:=Lib.hid hc0
 have B0:=Lib.hid (Below.refl B w)
 have K0:=Lib.hid hO
 clear hO hrow hc0
 go_enter Tryz.func44,Tryz.ntmps44
 go_wp2_with (first
  | go_skip
  | (refine at_load 25 (.tmp 12) (by rfl) ?_;refine wpList_get (by rfl) 25 (.tmp 12) (by rfl) g 0 (by rfl) 67 cs (.slice (some ⟨q,o,none⟩) ln lc) _ HROW.out HC0.out Tryz.underlying25 (by rfl) ?_)
  | (go_at_call 65;(with_reducible refine(HNUM.out K0.out).mono ?_);rintro e w1 ⟨rfl,hb,hk⟩;have B1:=Lib.hid (B0.out.trans hb);have K1:=Lib.hid hk;clear hb hk K0 B0)
  | (obtain⟨cs3,A2,n2,c2,hrow,h3,h4,h6,hF2,hN2⟩:=K1.out.cells;refine at_load 24 (.tmp 31) (by rfl) ?_;refine wpList_part (by rfl) 24 (.tmp 31) (by rfl) g 3 (by rfl) 67 cs3 #[.int .i64 M,.slice A2 n2 c2] _ hrow (part2 h3 h4) Tryz.underlying24 (by rfl) infoc_T ?_;have HF2:=Lib.hid hF2;clear hrow h3 h4 h6 hF2 hN2)
  | (go_at_call 66;(with_reducible refine(HAT.out _ _ _ _ HF2.out).mono ?_);rintro e w2 ⟨rfl,hb⟩;have K2:=Lib.hid (K1.out.on hb);have B2:=Lib.hid (B1.out.trans (hb.mono K1.out.bz));have K2b:=Lib.hid (K2.out.box #[.string ⟨#[]⟩,.string ⟨#[]⟩] 27);have hw0:B≤w2.heap.size:=K2.out.bz;have B2b:=Lib.hid (B2.out.alloc hw0 (.cells #[.string ⟨#[]⟩,.string ⟨#[]⟩] 27));clear hb K1 B1 HF2 K2 B2)
  | (refine at_store 27 (.tmp 8) (.tmp 35) (by rfl) ?_;refine wpList_put (by rfl) 27 (.tmp 8) (.tmp 35) (by rfl) w2.heap.size 0 (.agg #[.string ga,.string gb]) (by rfl) (by rfl) 27 #[.string ⟨#[]⟩,.string ⟨#[]⟩] #[.string ga,.string gb] (K2b.out.row0) (by simp[Value.cells]) (by kernel_rfl) infoc_D (by kernel_rfl) ?_;intro w3 hrow hoth hz2 hbl;have K3:=Lib.hid (K2b.out.turn0 hrow hoth hz2);have B3:=Lib.hid (hbl _ _ hw0 B2b.out);clear hrow hoth hz2 hbl K2b B2b)
  | (refine at_load 27 (.tmp 8) (by rfl) ?_;refine wpListG_row (by rfl) 27 (.tmp 8) (by rfl) w2.heap.size (by rfl) 27 #[.string ga,.string gb] _ (K3.out.row0) Tryz.underlying27 (by rfl) infoc_D ?_)
  | (go_at_call 67;(with_reducible refine(HTEL.out K3.out).mono ?_);rintro e w4 ⟨rfl,hb,hk⟩;have B4:=Lib.hid (B3.out.trans hb);have K4:=Lib.hid hk;clear hb hk K3 B3))
 go_ret
 exact⟨rfl,B4.out,K4.out.drop⟩
end Go.Proofs.YtahiajeggbpogaaGreatDoor
