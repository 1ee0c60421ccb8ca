import Derived.Test.YtahiajeggbpogaaGreatDoorUpOd
set_option maxRecDepth 100000
set_option maxHeartbeats 4000000
namespace Go.Proofs.YtahiajeggbpogaaGreatDoor
open Go.RowKit Go.Shelf Px Tx Tb Up GD
set_option linter.unusedVariables false
set_option linter.unusedSimpArgs false
attribute [local go_sem] Oper.semAt_some
theorem d_res_n{w:World}{fs:List Fact}{gs:List Bx}{i g B:Nat}{M:Int}{xs:List Fd}{ls R:List UInt8}{T:List Fd}{V:Nat}{CE:Int}(most:Int)(hO:OpR w fs gs i g B ⟨M,xs,ls⟩ T)(HNUM:Hid (∀{W:World} {gs:List Bx} {i:Nat},OpR W fs gs i g B ⟨M,xs,ls⟩ T→Calls Tryz.prog 65 #[.pointer (some ⟨g,0,none⟩),.int .i64 5] W fun e w'=>e = .returned (.tuple #[.int .i64 (V:Int),.int .i64 CE])∧Below B W w'∧OpR w' fs gs i g B ⟨M,xs,R⟩ T))(he:CE≠0) :
  Calls Tryz.prog 69 #[.pointer (some ⟨g,0,none⟩),.int .i64 most] w fun e w'=>e = .returned (.int .i64 CE)∧Below B w w':=by
 have d1:(CE != 0)=true:=by simpa using he
 have B0:=Lib.hid (Below.refl B w)
 have K0:=Lib.hid hO
 clear hO
 go_enter Tryz.func69,Tryz.ntmps69
 go_wp2_with (first
  | go_skip
  | (go_at_call 65;(with_reducible refine(HNUM.out K0.out).mono ?_);rintro e w1 ⟨rfl,hb,hk⟩;have B1:=Lib.hid (B0.out.trans hb);clear hb hk K0 B0))
 go_ret
 exact⟨rfl,B1.out⟩
theorem d_res_a{w:World}{fs:List Fact}{gs:List Bx}{i g B:Nat}{M:Int}{xs:List Fd}{ls R:List UInt8}{T:List Fd}{V:Nat}{CE:Int}(most:Int)(hO:OpR w fs gs i g B ⟨M,xs,ls⟩ T)(HNUM:Hid (∀{W:World} {gs:List Bx} {i:Nat},OpR W fs gs i g B ⟨M,xs,ls⟩ T→Calls Tryz.prog 65 #[.pointer (some ⟨g,0,none⟩),.int .i64 5] W fun e w'=>e = .returned (.tuple #[.int .i64 (V:Int),.int .i64 0])∧Below B W w'∧OpR w' fs gs i g B ⟨M,xs,R⟩ T))(hY:Hid ((!T.isEmpty)=true)) :
  Calls Tryz.prog 69 #[.pointer (some ⟨g,0,none⟩),.int .i64 most] w fun e w'=>e = .returned (.int .i64 100)∧Below B w w':=by
 have B0:=Lib.hid (Below.refl B w)
 have K0:=Lib.hid hO
 clear hO
 go_enter Tryz.func69,Tryz.ntmps69
 go_wp2_with (first
  | go_skip
  | (go_at_call 65;(with_reducible refine(HNUM.out K0.out).mono ?_);rintro e w1 ⟨rfl,hb,hk⟩;have B1:=Lib.hid (B0.out.trans hb);obtain⟨q1,q2,LA,ln,lc,A,n,c,v,lb,q3,q4,q5,q6,q7⟩:=hk;have hz1:B≤w1.heap.size:=OpR.bz ⟨q1,q2,LA,ln,lc,A,n,c,v,lb,q3,q4,q5,q6,q7⟩;rw[hY.out] at q7;have Q7:=Lib.hid q7;have Q2:=Lib.hid q2;have Q3:=Lib.hid q3;have Q4:=Lib.hid q4;have Q5:=Lib.hid q5;have Q6:=Lib.hid q6;clear q2 q3 q4 q5 q6 q7 hb K0 B0)
  | (refine at_load 4 (.tmp 17) (by rfl) ?_;refine wpList_get (by rfl) 4 (.tmp 17) (by rfl) g 6 (by rfl) 67 (opc LA ln lc v (decide (2000<full T)) M A n c (full T) true) (.bool true) _ (Q7.out.row i (ixl (List.getElem?_set_self Q2.out))) (by rfl) Tryz.underlying4 (by rfl) ?_))
 go_ret
 exact⟨rfl,B1.out⟩
theorem d_res_m{w:World}{fs:List Fact}{gs:List Bx}{i g B:Nat}{M:Int}{xs:List Fd}{ls R:List UInt8}{T:List Fd}{V:Nat}{CE:Int}(most:Int)(hO:OpR w fs gs i g B ⟨M,xs,ls⟩ T)(HNUM:Hid (∀{W:World} {gs:List Bx} {i:Nat},OpR W fs gs i g B ⟨M,xs,ls⟩ T→Calls Tryz.prog 65 #[.pointer (some ⟨g,0,none⟩),.int .i64 5] W fun e w'=>e = .returned (.tuple #[.int .i64 (V:Int),.int .i64 0])∧Below B W w'∧OpR w' fs gs i g B ⟨M,xs,R⟩ T))(hY:Hid ((!T.isEmpty)=false))(hm:most<(V:Int)) :
  Calls Tryz.prog 69 #[.pointer (some ⟨g,0,none⟩),.int .i64 most] w fun e w'=>e = .returned (.int .i64 100)∧Below B w w':=by
 have d1:decide (most<(V:Int))=true:=decide_eq_true hm
 have B0:=Lib.hid (Below.refl B w)
 have K0:=Lib.hid hO
 clear hO
 go_enter Tryz.func69,Tryz.ntmps69
 go_wp2_with (first
  | go_skip
  | (go_at_call 65;(with_reducible refine(HNUM.out K0.out).mono ?_);rintro e w1 ⟨rfl,hb,hk⟩;have B1:=Lib.hid (B0.out.trans hb);obtain⟨q1,q2,LA,ln,lc,A,n,c,v,lb,q3,q4,q5,q6,q7⟩:=hk;have hz1:B≤w1.heap.size:=OpR.bz ⟨q1,q2,LA,ln,lc,A,n,c,v,lb,q3,q4,q5,q6,q7⟩;rw[hY.out] at q7;have Q7:=Lib.hid q7;have Q2:=Lib.hid q2;have Q3:=Lib.hid q3;have Q4:=Lib.hid q4;have Q5:=Lib.hid q5;have Q6:=Lib.hid q6;clear q2 q3 q4 q5 q6 q7 hb K0 B0)
  | (refine at_load 4 (.tmp 17) (by rfl) ?_;refine wpList_get (by rfl) 4 (.tmp 17) (by rfl) g 6 (by rfl) 67 (opc LA ln lc v (decide (2000<full T)) M A n c (full T) false) (.bool false) _ (Q7.out.row i (ixl (List.getElem?_set_self Q2.out))) (by rfl) Tryz.underlying4 (by rfl) ?_))
 go_ret
 exact⟨rfl,B1.out⟩
theorem d_res_y{w:World}{fs:List Fact}{gs:List Bx}{i g B:Nat}{M:Int}{xs:List Fd}{ls R:List UInt8}{T:List Fd}{V:Nat}{CE:Int}(most:Int)(hO:OpR w fs gs i g B ⟨M,xs,ls⟩ T)(HNUM:Hid (∀{W:World} {gs:List Bx} {i:Nat},OpR W fs gs i g B ⟨M,xs,ls⟩ T→Calls Tryz.prog 65 #[.pointer (some ⟨g,0,none⟩),.int .i64 5] W fun e w'=>e = .returned (.tuple #[.int .i64 (V:Int),.int .i64 0])∧Below B W w'∧OpR w' fs gs i g B ⟨M,xs,R⟩ T))(hY:Hid ((!T.isEmpty)=false))(hm : ¬most<(V:Int))(hF:full xs≤100000) :
  Calls Tryz.prog 69 #[.pointer (some ⟨g,0,none⟩),.int .i64 most] w fun e w'=>e = .returned (.int .i64 0)∧Below B w w'∧OpR w' fs gs i g B ⟨resM M xs V,resL M xs V,R⟩ T:=by
 have d1:decide (most<(V:Int))=false:=decide_eq_false hm
 have B0:=Lib.hid (Below.refl B w)
 have K0:=Lib.hid hO
 clear hO
 go_enter Tryz.func69,Tryz.ntmps69
 go_wp2_with (first
  | go_skip
  | (go_at_call 65;(with_reducible refine(HNUM.out K0.out).mono ?_);rintro e w1 ⟨rfl,hb,hk⟩;have B1:=Lib.hid (B0.out.trans hb);obtain⟨q1,q2,LA,ln,lc,A,n,c,v,lb,q3,q4,q5,q6,q7⟩:=hk;have hz1:B≤w1.heap.size:=OpR.bz ⟨q1,q2,LA,ln,lc,A,n,c,v,lb,q3,q4,q5,q6,q7⟩;rw[hY.out] at q7;have Q7:=Lib.hid q7;have Q2:=Lib.hid q2;have Q3:=Lib.hid q3;have Q4:=Lib.hid q4;have Q5:=Lib.hid q5;have Q6:=Lib.hid q6;clear q2 q3 q4 q5 q6 q7 hb K0 B0)
  | (refine at_load 4 (.tmp 17) (by rfl) ?_;refine wpList_get (by rfl) 4 (.tmp 17) (by rfl) g 6 (by rfl) 67 (opc LA ln lc v (decide (2000<full T)) M A n c (full T) false) (.bool false) _ (Q7.out.row i (ixl (List.getElem?_set_self Q2.out))) (by rfl) Tryz.underlying4 (by rfl) ?_)
  | (refine at_load 24 (.tmp 29) (by rfl) ?_;refine wpList_part (by rfl) 24 (.tmp 29) (by rfl) g 3 (by rfl) 67 (opc LA ln lc v (decide (2000<full T)) M A n c (full T) false) #[.int .i64 M,.slice A n c] _ (Q7.out.row i (ixl (List.getElem?_set_self Q2.out))) (part2 (by rfl) (by rfl)) Tryz.underlying24 (by rfl) infoc_T ?_)
  | (go_at_call 43;(with_reducible refine(r_resize M A n c xs (V:Int) w1 (Q7.out.fs (A:=A) (n:=n) (xs:=xs) (by simp)) Q6.out hF).mono ?_);rintro e w2 ⟨vv,rfl,ho,hb⟩;obtain⟨A2,c2,rfl,_,hc2,_⟩:=ho.form2 (n:=(resL M xs V).length) rfl;have Q8:=Lib.hid (Q7.out.hand hb ho.handF);have B2:=Lib.hid (B1.out.trans (hb.mono hz1));have HC2:=Lib.hid hc2;clear ho hb hc2 B1 Q7)
  | (refine at_store 24 (.tmp 37) (.tmp 33) (by rfl) ?_;refine wpList_put (by rfl) 24 (.tmp 37) (.tmp 33) (by rfl) g 3 (.agg #[.int .i64 (resM M xs V),.slice A2 (resL M xs V).length c2]) (by rfl) (by rfl) 67 (opc LA ln lc v (decide (2000<full T)) M A n c (full T) false) (opc LA ln lc v (decide (2000<full T)) (resM M xs V) A2 (resL M xs V).length c2 (full T) false) (Q8.out.row i (ixl (List.getElem?_set_self Q2.out))) (by simp[Value.cells,opc]) (by kernel_rfl) infoc_T (by kernel_rfl) ?_;intro w3 hrow hoth hz2 hbl;have Q9:=Lib.hid (Q8.out.turn i (ixl (List.getElem?_set_self Q2.out)) hrow hoth hz2);have B3:=Lib.hid (hbl _ _ q1 B2.out);clear hrow hoth hz2 hbl Q8 B2))
 go_ret
 have q9:=Q9.out
 rw[set_left (by simpa using Q2.out),List.set_set,←hY.out] at q9
 exact⟨rfl,B3.out,q1,Q2.out,LA,ln,lc,A2,_,c2,v,lb,Q3.out,Q4.out,Q5.out,HC2.out,q9.sub (fun x hx=>by simp only[List.mem_cons] at hx ⊢;rcases hx with rfl | rfl | hx<;>simp[*]) (List.Sublist.refl _)⟩
end Go.Proofs.YtahiajeggbpogaaGreatDoor
