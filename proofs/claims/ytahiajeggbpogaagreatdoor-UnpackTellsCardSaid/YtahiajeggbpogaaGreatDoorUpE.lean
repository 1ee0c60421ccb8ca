import Derived.Test.YtahiajeggbpogaaGreatDoorUpD
set_option maxRecDepth 100000
set_option maxHeartbeats 4000000
namespace Go.Proofs.YtahiajeggbpogaaGreatDoor
open Go.RowKit Go.ChangeMaps Px Tx Tb Up
set_option linter.unusedVariables false
set_option linter.unusedSimpArgs false
theorem step_insert_run{P:Program}{ops:Array Oper}{w w':World}{o:Oper}{a:Act}{K:Act→World→Prop}{Q:Exit→Act→World→Prop}{E:Prop}(hgd:o.guard=none)(t:TypeId)(m x v:Operand)
  (ho:o.op = .insert t m x v) (mv xv vv:Value) (hrun:(Instr.mapUpdate t mv xv vv).run P w = .ok () w') (hm:a.eval m=mv) (hx:a.eval x=xv) (hv:a.eval v=vv)
  (h:K (a.put o.dst undef) w'):if Region.wanted o (yielded ops a.tmps)=true then Oper.wp P o a w K Q else E:=by
 have hw:Region.wanted o (yielded ops a.tmps)=true:=by simp[Region.wanted,hgd]
 rw[if_pos hw]
 unfold Oper.wp
 simp[execOp,ho,hm,hx,hv,hrun,Result.andThen]
 exact h
namespace Up
def Mks(w:World):Prop:=(w.cell? ⟨0,0,none⟩=some (.int .u8 1)∧w.cell? ⟨0,1,none⟩=some (.int .u8 1))∧(w.cell? ⟨2,0,none⟩=some (.int .u8 2)∧w.cell? ⟨2,1,none⟩=some (.int .u8 1))∧(w.cell? ⟨1,0,none⟩=some (.int .u8 3)∧w.cell? ⟨1,1,none⟩=some (.int .u8 1))∧(w.cell? ⟨3,0,none⟩=some (.int .u8 4)∧w.cell? ⟨3,1,none⟩=some (.int .u8 1))∧(w.cell? ⟨4,0,none⟩=some (.int .u8 4)∧w.cell? ⟨4,1,none⟩=some (.int .u8 0))
def mvF:Fact where
 on k:=k=0∨k=2∨k=1∨k=3∨k=4
 is w:=Mks w
 dep w w' h hz hk:=by
  have c : ∀k j,(k=0∨k=2∨k=1∨k=3∨k=4)→w'.cell? ⟨k,j,none⟩=w.cell? ⟨k,j,none⟩:=fun k j h=>World.cell?_of_block (a:=⟨k,j,none⟩) (hk k h)
  unfold Mks at *
  rw[c _ 0 (.inl rfl),c _ 1 (.inl rfl),c _ 0 (.inr (.inl rfl)),c _ 1 (.inr (.inl rfl)),c _ 0 (.inr (.inr (.inl rfl))),c _ 1 (.inr (.inr (.inl rfl))),c _ 0 (.inr (.inr (.inr (.inl rfl)))),c _ 1 (.inr (.inr (.inr (.inl rfl)))),c _ 0 (.inr (.inr (.inr (.inr rfl)))),c _ 1 (.inr (.inr (.inr (.inr rfl))))]
  exact h
theorem EnvF.mks{w:World}{fs:List Fact}{gs:List Bx}(h:EnvF w fs gs)(hm:mvF∈fs):Mks w:=(h.f _ hm).1
end Up
theorem u_start_a{M most:Int}{A:Option Addr}{n c:Nat}{xs:List Fd}(LA:Option Addr)(ln lc:Nat)(w:World)(hA:Fs w w.heap.size A n xs)(hN:A=none→c=0)(hF:full xs≤100000)(hK:resM M xs M=0)(hL:resL M xs M=[])(hE:resE M xs M=2) :
  Calls Tryz.prog 39 #[.agg #[.int .i64 M,.slice A n c],.int .i64 most,.slice LA ln lc] w fun e w'=>e = .returned (.tuple #[.pointer none,.int .i64 2])∧Below w.heap.size w w':=by
 have HZ:Hid (∀w0,Fs w0 w0.heap.size A n xs→Calls Tryz.prog 59 #[.agg #[.int .i64 M,.slice A n c],.int .i64 M] w0 fun e w'=>∃v,e = .returned (.tuple #[.agg #[.int .i64 (0),v],.int .i64 2])∧OwnF w' w0.heap.size 27 v ([])∧Below w0.heap.size w0 w'):=Lib.hid (fun w0 h0=>by
  have:=t_resize M A n c xs M w0 h0 hN hF
  rwa [hK,hL,hE] at this)
 obtain⟨N,hNe⟩ : ∃N,([]:List Fd).length=N:=⟨_,rfl⟩
 have HL:=Lib.hid hNe
 clear hNe hK hL hE
 have K0:Hid (EnvF (w.alloc (.cells #[.int .i64 M,.slice A n c] 24)) [fF A n xs] [(w.heap.size,#[.int .i64 M,.slice A n c],24)]):=Lib.hid (((EnvF.nil w).addF hA).boxg 24 #[.int .i64 M,.slice A n c] (w.heap.size) (by simp))
 have B0:Hid (Below w.heap.size w (w.alloc (.cells #[.int .i64 M,.slice A n c] 24))):=Lib.hid ((Below.refl _ w).alloc (Nat.le_refl _) (.cells #[.int .i64 M,.slice A n c] 24))
 clear hA
 go_enter Tryz.func39,Tryz.ntmps39
 go_wp2_with (first
  | go_skip
  | (refine at_load 24 (.tmp 3) (by rfl) ?_;refine wpList_load_row (by rfl) 24 (.tmp 3) (by rfl) (w.heap.size) (by rfl) 24 #[.int .i64 M,.slice A n c] (0,0) _ (K0.out.row 0 rfl) Tryz.underlying24 (by rfl) infoc_T ?_)
  | (refine at_load 3 (.tmp 12) (by rfl) ?_;refine wpList_get (by rfl) 3 (.tmp 12) (by rfl) (w.heap.size) 0 (by rfl) 24 #[.int .i64 M,.slice A n c] (.int .i64 M) _ (K0.out.row 0 rfl) (by rfl) Tryz.underlying3 (by rfl) ?_)
  | (go_at_call 59;(have hc:=(HZ.out _ (K0.out.fs (A:=A) (n:=n) (xs:=xs) (by simp))));(with_reducible refine hc.mono ?_);clear hc;rintro e w1 ⟨v,rfl,ho,hb⟩;obtain⟨A1,c1,rfl,hc1,hn1,_,_⟩:=ho.form2 HL.out;have K1:=Lib.hid ((K0.out.hand hb ho.handF).boxg 24 #[.int .i64 0,.slice none 0 0] w1.heap.size (by simp));have B1:Hid (Below w.heap.size w (w1.alloc (.cells #[.int .i64 0,.slice none 0 0] 24))):=Lib.hid ((below_step B0.out hb).alloc (below_step B0.out hb).size _);have hz1:=(below_step B0.out hb).size;clear hb ho K0 B0)
  | (refine at_store 24 (.tmp 8) (.tmp 15) (by rfl) ?_;refine wpList_put (by rfl) 24 (.tmp 8) (.tmp 15) (by rfl) (w1.heap.size) 0 (.agg #[.int .i64 (0),.slice A1 N c1]) (by rfl) (by rfl) 24 #[.int .i64 0,.slice none 0 0] #[.int .i64 (0),.slice A1 N c1] (K1.out.row 0 rfl) (by simp[Value.cells]) (by kernel_rfl) infoc_T (by kernel_rfl) ?_;intro w2 hrow hoth hz hbl;have K2:=Lib.hid (K1.out.turn 0 rfl hrow hoth hz);have B2:Hid (Below w.heap.size w w2):=Lib.hid (hbl _ _ hz1 B1.out);clear hrow hoth hz hbl K1 B1))
 go_ret2
 exact⟨rfl,B2.out⟩
theorem u_start_b{M most:Int}{A:Option Addr}{n c:Nat}{xs:List Fd}(LA:Option Addr)(ln lc:Nat)(w:World)(hA:Fs w w.heap.size A n xs)(hN:A=none→c=0)(hF:full xs≤100000)(hK:resM M xs M=M)(hL:resL M xs M=xs)(hE:resE M xs M=0)(hm:most<0) :
  Calls Tryz.prog 39 #[.agg #[.int .i64 M,.slice A n c],.int .i64 most,.slice LA ln lc] w fun e w'=>e = .returned (.tuple #[.pointer none,.int .i64 2])∧Below w.heap.size w w':=by
 have HZ:Hid (∀w0,Fs w0 w0.heap.size A n xs→Calls Tryz.prog 59 #[.agg #[.int .i64 M,.slice A n c],.int .i64 M] w0 fun e w'=>∃v,e = .returned (.tuple #[.agg #[.int .i64 (M),v],.int .i64 0])∧OwnF w' w0.heap.size 27 v (xs)∧Below w0.heap.size w0 w'):=Lib.hid (fun w0 h0=>by
  have:=t_resize M A n c xs M w0 h0 hN hF
  rwa [hK,hL,hE] at this)
 obtain⟨N,hNe⟩ : ∃N,(xs).length=N:=⟨_,rfl⟩
 have HL:=Lib.hid hNe
 clear hNe hK hL hE
 have K0:Hid (EnvF (w.alloc (.cells #[.int .i64 M,.slice A n c] 24)) [fF A n xs] [(w.heap.size,#[.int .i64 M,.slice A n c],24)]):=Lib.hid (((EnvF.nil w).addF hA).boxg 24 #[.int .i64 M,.slice A n c] (w.heap.size) (by simp))
 have B0:Hid (Below w.heap.size w (w.alloc (.cells #[.int .i64 M,.slice A n c] 24))):=Lib.hid ((Below.refl _ w).alloc (Nat.le_refl _) (.cells #[.int .i64 M,.slice A n c] 24))
 clear hA
 have d1:decide (most<0)=true:=decide_eq_true hm
 go_enter Tryz.func39,Tryz.ntmps39
 go_wp2_with (first
  | go_skip
  | (refine at_load 24 (.tmp 3) (by rfl) ?_;refine wpList_load_row (by rfl) 24 (.tmp 3) (by rfl) (w.heap.size) (by rfl) 24 #[.int .i64 M,.slice A n c] (0,0) _ (K0.out.row 0 rfl) Tryz.underlying24 (by rfl) infoc_T ?_)
  | (refine at_load 3 (.tmp 12) (by rfl) ?_;refine wpList_get (by rfl) 3 (.tmp 12) (by rfl) (w.heap.size) 0 (by rfl) 24 #[.int .i64 M,.slice A n c] (.int .i64 M) _ (K0.out.row 0 rfl) (by rfl) Tryz.underlying3 (by rfl) ?_)
  | (go_at_call 59;(have hc:=(HZ.out _ (K0.out.fs (A:=A) (n:=n) (xs:=xs) (by simp))));(with_reducible refine hc.mono ?_);clear hc;rintro e w1 ⟨v,rfl,ho,hb⟩;obtain⟨A1,c1,rfl,hc1,hn1,_,_⟩:=ho.form2 HL.out;have K1:=Lib.hid ((K0.out.hand hb ho.handF).boxg 24 #[.int .i64 0,.slice none 0 0] w1.heap.size (by simp));have B1:Hid (Below w.heap.size w (w1.alloc (.cells #[.int .i64 0,.slice none 0 0] 24))):=Lib.hid ((below_step B0.out hb).alloc (below_step B0.out hb).size _);have hz1:=(below_step B0.out hb).size;clear hb ho K0 B0)
  | (refine at_store 24 (.tmp 8) (.tmp 15) (by rfl) ?_;refine wpList_put (by rfl) 24 (.tmp 8) (.tmp 15) (by rfl) (w1.heap.size) 0 (.agg #[.int .i64 (M),.slice A1 N c1]) (by rfl) (by rfl) 24 #[.int .i64 0,.slice none 0 0] #[.int .i64 (M),.slice A1 N c1] (K1.out.row 0 rfl) (by simp[Value.cells]) (by kernel_rfl) infoc_T (by kernel_rfl) ?_;intro w2 hrow hoth hz hbl;have K2:=Lib.hid (K1.out.turn 0 rfl hrow hoth hz);have B2:Hid (Below w.heap.size w w2):=Lib.hid (hbl _ _ hz1 B1.out);clear hrow hoth hz hbl K1 B1))
 go_ret2
 exact⟨rfl,B2.out⟩
theorem u_start_c{M most:Int}{A:Option Addr}{n c:Nat}{xs:List Fd}(LA:Option Addr)(ln lc:Nat)(w:World)(hA:Fs w w.heap.size A n xs)(hN:A=none→c=0)(hF:full xs≤100000)(hK:resM M xs M=M)(hL:resL M xs M=xs)(hE:resE M xs M=0)(hm:0≤most)(hm2:4096<most) :
  Calls Tryz.prog 39 #[.agg #[.int .i64 M,.slice A n c],.int .i64 most,.slice LA ln lc] w fun e w'=>e = .returned (.tuple #[.pointer none,.int .i64 2])∧Below w.heap.size w w':=by
 have HZ:Hid (∀w0,Fs w0 w0.heap.size A n xs→Calls Tryz.prog 59 #[.agg #[.int .i64 M,.slice A n c],.int .i64 M] w0 fun e w'=>∃v,e = .returned (.tuple #[.agg #[.int .i64 (M),v],.int .i64 0])∧OwnF w' w0.heap.size 27 v (xs)∧Below w0.heap.size w0 w'):=Lib.hid (fun w0 h0=>by
  have:=t_resize M A n c xs M w0 h0 hN hF
  rwa [hK,hL,hE] at this)
 obtain⟨N,hNe⟩ : ∃N,(xs).length=N:=⟨_,rfl⟩
 have HL:=Lib.hid hNe
 clear hNe hK hL hE
 have K0:Hid (EnvF (w.alloc (.cells #[.int .i64 M,.slice A n c] 24)) [fF A n xs] [(w.heap.size,#[.int .i64 M,.slice A n c],24)]):=Lib.hid (((EnvF.nil w).addF hA).boxg 24 #[.int .i64 M,.slice A n c] (w.heap.size) (by simp))
 have B0:Hid (Below w.heap.size w (w.alloc (.cells #[.int .i64 M,.slice A n c] 24))):=Lib.hid ((Below.refl _ w).alloc (Nat.le_refl _) (.cells #[.int .i64 M,.slice A n c] 24))
 clear hA
 have d1:decide (most<0)=false:=decide_eq_false (by omega)
 have d2:decide (4096<most)=true:=decide_eq_true hm2
 go_enter Tryz.func39,Tryz.ntmps39
 go_wp2_with (first
  | go_skip
  | (refine at_load 24 (.tmp 3) (by rfl) ?_;refine wpList_load_row (by rfl) 24 (.tmp 3) (by rfl) (w.heap.size) (by rfl) 24 #[.int .i64 M,.slice A n c] (0,0) _ (K0.out.row 0 rfl) Tryz.underlying24 (by rfl) infoc_T ?_)
  | (refine at_load 3 (.tmp 12) (by rfl) ?_;refine wpList_get (by rfl) 3 (.tmp 12) (by rfl) (w.heap.size) 0 (by rfl) 24 #[.int .i64 M,.slice A n c] (.int .i64 M) _ (K0.out.row 0 rfl) (by rfl) Tryz.underlying3 (by rfl) ?_)
  | (go_at_call 59;(have hc:=(HZ.out _ (K0.out.fs (A:=A) (n:=n) (xs:=xs) (by simp))));(with_reducible refine hc.mono ?_);clear hc;rintro e w1 ⟨v,rfl,ho,hb⟩;obtain⟨A1,c1,rfl,hc1,hn1,_,_⟩:=ho.form2 HL.out;have K1:=Lib.hid ((K0.out.hand hb ho.handF).boxg 24 #[.int .i64 0,.slice none 0 0] w1.heap.size (by simp));have B1:Hid (Below w.heap.size w (w1.alloc (.cells #[.int .i64 0,.slice none 0 0] 24))):=Lib.hid ((below_step B0.out hb).alloc (below_step B0.out hb).size _);have hz1:=(below_step B0.out hb).size;clear hb ho K0 B0)
  | (refine at_store 24 (.tmp 8) (.tmp 15) (by rfl) ?_;refine wpList_put (by rfl) 24 (.tmp 8) (.tmp 15) (by rfl) (w1.heap.size) 0 (.agg #[.int .i64 (M),.slice A1 N c1]) (by rfl) (by rfl) 24 #[.int .i64 0,.slice none 0 0] #[.int .i64 (M),.slice A1 N c1] (K1.out.row 0 rfl) (by simp[Value.cells]) (by kernel_rfl) infoc_T (by kernel_rfl) ?_;intro w2 hrow hoth hz hbl;have K2:=Lib.hid (K1.out.turn 0 rfl hrow hoth hz);have B2:Hid (Below w.heap.size w w2):=Lib.hid (hbl _ _ hz1 B1.out);clear hrow hoth hz hbl K1 B1))
 go_ret2
 exact⟨rfl,B2.out⟩
theorem Up.res_yes{M:Int}{xs:List Fd}(h:rightB M xs=true):resM M xs M=M∧resL M xs M=xs∧resE M xs M=0:=by
 have e:resB M xs M=true:=by
  unfold resB
  rw[h]
  unfold rightB at h
  simp only[Bool.and_eq_true] at h
  rw[h.1]
  rfl
 unfold rightB at h
 simp only[Bool.and_eq_true,decide_eq_true_eq] at h
 refine⟨?_,?_,?_⟩
 ·unfold resM;rw[e];rfl
 ·unfold resL;rw[e];exact keep_all h.2
 ·unfold resE;rw[e];rfl
theorem Up.res_no{M:Int}{xs:List Fd}(h:rightB M xs=false):resM M xs M=0∧resL M xs M=[]∧resE M xs M=2:=by
 have e:resB M xs M=false:=by unfold resB;rw[h];rfl
 refine⟨?_,?_,?_⟩
 ·unfold resM;rw[e];rfl
 ·unfold resL;rw[e];rfl
 ·unfold resE;rw[e];rfl
theorem u_start_no{M most:Int}{A:Option Addr}{n c:Nat}{xs:List Fd}(LA:Option Addr)(ln lc:Nat)(w:World)(hA:Fs w w.heap.size A n xs)(hN:A=none→c=0)(hF:full xs≤100000)(h:okA M most xs=false) :
  Calls Tryz.prog 39 #[.agg #[.int .i64 M,.slice A n c],.int .i64 most,.slice LA ln lc] w fun e w'=>e = .returned (.tuple #[.pointer none,.int .i64 2])∧Below w.heap.size w w':=by
 cases hr:rightB M xs with
 | false=>
  obtain⟨h1,h2,h3⟩:=res_no hr
  exact u_start_a LA ln lc w hA hN hF h1 h2 h3
 | true=>
  obtain⟨h1,h2,h3⟩:=res_yes hr
  unfold okA okB at h
  rw[hr] at h
  simp only[Bool.true_and,Bool.and_eq_false_iff,decide_eq_false_iff_not] at h
  by_cases hm:most<0
  ·exact u_start_b LA ln lc w hA hN hF h1 h2 h3 hm
  ·exact u_start_c LA ln lc w hA hN hF h1 h2 h3 (by omega) (by omega)
end Go.Proofs.YtahiajeggbpogaaGreatDoor
