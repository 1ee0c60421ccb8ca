import Derived.Test.YtahiajeggbpogaaGreatDoorUpQ
set_option maxRecDepth 100000
set_option maxHeartbeats 1000000
namespace Go.Proofs.YtahiajeggbpogaaGreatDoor
open Go.RowKit Go.Shelf Px Tx Tb Up
set_option linter.unusedVariables false
set_option linter.unusedSimpArgs false
attribute [local go_sem] Oper.semAt_some
theorem y_put_one_o(n k:Nat)(u:UInt8)(w:World)(h1:1≤k)(h8:k≤8)(hn:n<mx k) :
  Calls Tryz.prog 47 #[.int .i64 (n:Int),.int .i64 (k:Int),.int .u8 (u.toNat:Int)] w fun e w'=>∃A c,e = .returned (.tuple #[.slice A 1 c,.int .i64 0])∧OwnB w' w.heap.size 5 (.slice A 1 c) [UInt8.ofNat (u.toNat / 2 ^ k*2 ^ k+n)]∧Below w.heap.size w w':=by
 have hn2:=mx_le h8
 have hd:decide (MayN (n:Int) (k:Int))=true:=decide_eq_true ⟨⟨by omega,by omega⟩,by omega,by omega⟩
 have HF:Hid (∀w,Calls Tryz.prog 73 #[.int .i64 (k:Int)] w fun e w'=>e = .returned (.int .i64 (mx k:Int))∧w=w'):=Lib.hid (fun w=>x_most k w h1 h8)
 have hM1:=mx_pos h1
 have hM8:=mx_le h8
 have hMs:=mx_succ k
 have hul:=u.toNat_lt
 have hhi:=hi_of u.toNat k hul
 have hfit:=byte_lo u.toNat k n h8 hul (by omega)
 rw[←hMs] at hhi hfit ⊢
 clear hMs
 generalize mx k=M at *
 have HBY:=Lib.hid (hi_byte u.toNat M n hul (by omega) (by omega) hhi hfit)
 have hlt:decide ((n:Int)<(M:Int))=true:=decide_eq_true (by omega)
 go_enter Tryz.func47,Tryz.ntmps47
 go_wp2_with (first | (go_at_call 72;(with_reducible refine(x_may _ _ _).mono ?_);rintro e w' ⟨rfl,rfl⟩;rw[hd]) | (go_at_call 73;(with_reducible refine(HF.out _).mono ?_);rintro e w' ⟨rfl,rfl⟩))
 go_ret2
 exact⟨_,_,rfl,ownB_one _ _ _ _ _ (by rw[HBY.out.2]) (Nat.le_refl _),(Below.refl _ w).alloc (Nat.le_refl _) _⟩
theorem y_put_more_o(n k:Nat)(u:UInt8)(w:World)(h1:1≤k)(h8:k≤8)(hn:n<2147483648)(hge:mx k≤n) :
  Calls Tryz.prog 47 #[.int .i64 (n:Int),.int .i64 (k:Int),.int .u8 (u.toNat:Int)] w fun e w'=>∃A c,e = .returned (.tuple #[.slice A (tailB (n-mx k)).length.succ c,.int .i64 0])∧OwnB w' w.heap.size 5 (.slice A (tailB (n-mx k)).length.succ c) (UInt8.ofNat (u.toNat / 2 ^ k*2 ^ k+mx k)::tailB (n-mx k))∧Below w.heap.size w w':=by
 obtain⟨i0,hi,hz0,hz1,hz2⟩:=info_parts info_u8
 have hinf:=Lib.hid (And.intro hi (And.intro hz0 (And.intro hz1 hz2)))
 clear hi hz0 hz1 hz2
 have hd:decide (MayN (n:Int) (k:Int))=true:=decide_eq_true ⟨⟨by omega,by omega⟩,by omega,by omega⟩
 have HF:Hid (∀w,Calls Tryz.prog 73 #[.int .i64 (k:Int)] w fun e w'=>e = .returned (.int .i64 (mx k:Int))∧w=w'):=Lib.hid (fun w=>x_most k w h1 h8)
 have hM1:=mx_pos h1
 have hM8:=mx_le h8
 have hMs:=mx_succ k
 have hul:=u.toNat_lt
 have hhi:=hi_of u.toNat k hul
 have hfit:=byte_lo u.toNat k (mx k) h8 hul (by omega)
 rw[←hMs] at hhi hfit ⊢
 clear hMs
 generalize mx k=M at *
 have HBY:=Lib.hid (hi_byte u.toNat M M hul (by omega) (Nat.le_refl _) hhi hfit)
 have hlt:decide ((n:Int)<(M:Int))=false:=decide_eq_false (by omega)
 have hlt2:decide (n<M)=false:=decide_eq_false (by omega)
 have hT:=tailB_le (m:=n-M) (by omega)
 have HT:=Lib.hid hT
 generalize UInt8.ofNat (u.toNat / (M+1)*(M+1)+M)=B0 at *
 clear hhi hfit hT
 go_enter Tryz.func47,Tryz.ntmps47
 go_wp2_with (first | (go_at_call 72;(with_reducible refine(x_may _ _ _).mono ?_);rintro e w' ⟨rfl,rfl⟩;rw[hd]) | (go_at_call 73;(with_reducible refine(HF.out _).mono ?_);rintro e w' ⟨rfl,rfl⟩))
 go_loopw [0,10] (fun a v wr=>∃(m:Nat) (ys:List UInt8),a = .int .i64 (m:Int)∧m<2147483648∧ys++tailB m=tailB (n-M)∧OwnB wr w.heap.size 5 v (B0::ys)∧Below w.heap.size w wr) (fun a _ _=>(intOf a).toNat)
 case atStart=>
  refine⟨n-M,[],?_,by omega,rfl,ownB_one _ _ _ _ _ (by rw[HBY.out.2]) (Nat.le_refl _),(Below.refl _ w).alloc (Nat.le_refl _) _⟩
  rw[show((n-M:Nat):Int)=(n:Int)-(M:Int) from by omega]
 case round=>
  obtain⟨m,ys,rfl,hm,hys,hown,hbel⟩:=hrel
  obtain⟨A,c,rfl,_⟩:=hown.form
  have hyl:ys.length≤5:=by have:=congrArg List.length hys;rw[List.length_append] at this;have:=HT.out;omega
  have HO:=Lib.hid hown
  have HB:=Lib.hid hbel
  have HYS:=Lib.hid hys
  clear hown hbel hys
  by_cases h128:128≤m
  ·have ht:=tailB_ge h128
   have HTT:=Lib.hid ht
   have HX:=Lib.hid (byte128 m)
   have hsz:=HB.out.size
   clear ht
   go_wp2_with (at_builtin;refine wpList_append_bytes _ rfl (.tmp 43) (.tmp 48) 25 rfl w.heap.size 5 i0 Tryz.underlying25 hinf.out.1 hinf.out.2.1 hinf.out.2.2.1 hinf.out.2.2.2 _ (B0::ys) rfl (HO.out.alloc _) _ (some ⟨wr.heap.size,0,none⟩) 1 1 [UInt8.ofNat (m % 128+128)] rfl (bs_lit wr 5 [UInt8.ofNat (m % 128+128)] _ wr.heap.size rfl (by simp only[List.map_cons,List.map_nil,bv];rw[HX.out])) (fun e=>by cases e) (by simp;omega) (by simp;omega) ?_;intro v2 w2 ho2 hb2;have HO2:=Lib.hid ho2;have HB2:=Lib.hid ((HB.out.alloc hsz _).trans hb2);clear ho2 hb2)
   go_roundw
   case rel=>
    refine⟨m / 128,ys++[UInt8.ofNat (m % 128+128)],by rw[show((m / 128:Nat):Int)=(m:Int) / 128 from by omega],by omega,?_,HO2.out,HB2.out⟩
    rw[List.append_assoc,List.singleton_append,←HTT.out]
    exact HYS.out
   case measure=>simp only[intOf];omega
  ·have ht:=tailB_lt (show m<128 by omega)
   have HTT:=Lib.hid ht
   have HX:=Lib.hid (byteLt (show m<128 by omega))
   have hsz:=HB.out.size
   clear ht
   go_wp2_with (at_builtin;refine wpList_append_bytes _ rfl (.tmp 52) (.tmp 55) 25 rfl w.heap.size 5 i0 Tryz.underlying25 hinf.out.1 hinf.out.2.1 hinf.out.2.2.1 hinf.out.2.2.2 _ (B0::ys) rfl (HO.out.alloc _) _ (some ⟨wr.heap.size,0,none⟩) 1 1 [UInt8.ofNat m] rfl (bs_lit wr 5 [UInt8.ofNat m] _ wr.heap.size rfl (by simp only[List.map_cons,List.map_nil,bv];rw[HX.out])) (fun e=>by cases e) (by simp;omega) (by simp;omega) ?_;intro v2 w2 ho2 hb2;obtain⟨A2,c2,rfl,hh⟩:=ho2.handS (n:=(ys++tailB m).length+1) (by rw[HTT.out];simp);have HH:=Lib.hid ho2;have HB2:=Lib.hid ((HB.out.alloc hsz _).trans hb2);clear ho2 hb2 hh)
   have hys:=HYS.out
   rw[HTT.out] at hys
   have hlen:(tailB (n-M)).length=ys.length+1:=by rw[←hys];simp
   have hh:=HH.out
   rw[List.cons_append,hys] at hh
   have hb2:=HB2.out
   go_ret2
   refine⟨A2,c2,by rw[hlen];simp[HTT.out],?_,hb2⟩
   rw[show(tailB (n-M)).length.succ=(ys++tailB m).length+1 from by rw[HYS.out]]
   exact hh
theorem y_put_yes_o(n k:Nat)(u:UInt8)(w:World)(h1:1≤k)(h8:k≤8)(hn:n<2147483648) :
  Calls Tryz.prog 47 #[.int .i64 (n:Int),.int .i64 (k:Int),.int .u8 (u.toNat:Int)] w fun e w'=>∃A c,e = .returned (.tuple #[.slice A (numB n k).length c,.int .i64 0])∧OwnB w' w.heap.size 5 (.slice A (numB n k).length c) (putN n k u.toNat)∧Below w.heap.size w w':=by
 by_cases h:n<mx k
 ·rw[show numB n k=[UInt8.ofNat n] from if_pos h,show putN n k u.toNat=[UInt8.ofNat (u.toNat / 2 ^ k*2 ^ k+n)] from if_pos h]
  exact y_put_one_o n k u w h1 h8 h
 ·rw[show numB n k=UInt8.ofNat (mx k)::tailB (n-mx k) from if_neg h,show putN n k u.toNat=UInt8.ofNat (u.toNat / 2 ^ k*2 ^ k+mx k)::tailB (n-mx k) from if_neg h]
  exact y_put_more_o n k u w h1 h8 hn (by omega)
theorem Y_PutO(n:Int)(k:Nat)(u:UInt8)(w:World) :
  Calls Tryz.prog 47 #[.int .i64 n,.int .i64 (k:Int),.int .u8 (u.toNat:Int)] w (PutD n k u.toNat w):=by
 by_cases h:MayN n k
 ·unfold PutD
  rw[putE_yes h]
  obtain⟨a,b,rfl,e2,h1,h8,ha⟩:=may_nat h
  obtain rfl:k=b:=by omega
  rw[putL_yes h,numB_len_putN]
  exact y_put_yes_o a k u w h1 h8 ha
 ·unfold PutD
  rw[putE_no h,putL_no h]
  refine(y_put_no n k u w h).mono ?_
  rintro e w' ⟨rfl,hb⟩
  exact⟨none,0,rfl,OwnB.nil_ _ _ _,hb⟩
theorem d_Indexed(i:Int)(w:World):Calls Tryz.prog 12 #[.int .i64 i] w (PutD i 7 128 w):=by
 have HP:Hid (Calls Tryz.prog 47 #[.int .i64 i,.int .i64 7,.int .u8 128] w (PutD i 7 128 w)):=Lib.hid (Y_PutO i 7 128 w)
 unfold PutD at HP ⊢
 generalize putL i (7:Nat) 128=pl at *
 generalize putE i (7:Nat)=pe at *
 go_enter Tryz.func12,Tryz.ntmps12
 go_wp2_with (go_at_call 47;(with_reducible refine HP.out.mono ?_);rintro e w1 ⟨A1,c1,rfl,ho,hb⟩;have HO:=Lib.hid ho;have HB:=Lib.hid hb;clear ho hb)
 go_ret2
 exact⟨A1,c1,rfl,HO.out,HB.out⟩
theorem d_Sized(i:Int)(w:World):Calls Tryz.prog 14 #[.int .i64 i] w (PutD i 5 32 w):=by
 have HP:Hid (Calls Tryz.prog 47 #[.int .i64 i,.int .i64 5,.int .u8 32] w (PutD i 5 32 w)):=Lib.hid (Y_PutO i 5 32 w)
 unfold PutD at HP ⊢
 generalize putL i (5:Nat) 32=pl at *
 generalize putE i (5:Nat)=pe at *
 go_enter Tryz.func14,Tryz.ntmps14
 go_wp2_with (go_at_call 47;(with_reducible refine HP.out.mono ?_);rintro e w1 ⟨A1,c1,rfl,ho,hb⟩;have HO:=Lib.hid ho;have HB:=Lib.hid hb;clear ho hb)
 go_ret2
 exact⟨A1,c1,rfl,HO.out,HB.out⟩
theorem d_first(i way:Int)(w:World):Calls Tryz.prog 50 #[.int .i64 i,.int .i64 way] w (PutD i (wR way) (wU way) w):=by
 by_cases c1:way=1
 ·subst c1
  have HP:Hid (Calls Tryz.prog 47 #[.int .i64 i,.int .i64 6,.int .u8 64] w (PutD i (wR 1) (wU 1) w)):=Lib.hid (Y_PutO i 6 64 w)
  unfold PutD at HP ⊢
  generalize putL i (wR 1) (wU 1)=pl at *
  generalize putE i (wR 1)=pe at *
  go_enter Tryz.func50,Tryz.ntmps50
  go_wp2_with (go_at_call 47;(with_reducible refine HP.out.mono ?_);rintro e w1 ⟨A1,c1,rfl,ho,hb⟩;have HO:=Lib.hid ho;have HB:=Lib.hid hb;clear ho hb)
  go_ret2
  exact⟨A1,c1,rfl,HO.out,HB.out⟩
 ·by_cases c2:way=2
  ·subst c2
   have HP:Hid (Calls Tryz.prog 47 #[.int .i64 i,.int .i64 4,.int .u8 16] w (PutD i (wR 2) (wU 2) w)):=Lib.hid (Y_PutO i 4 16 w)
   unfold PutD at HP ⊢
   generalize putL i (wR 2) (wU 2)=pl at *
   generalize putE i (wR 2)=pe at *
   go_enter Tryz.func50,Tryz.ntmps50
   go_wp2_with (go_at_call 47;(with_reducible refine HP.out.mono ?_);rintro e w1 ⟨A1,c1,rfl,ho,hb⟩;have HO:=Lib.hid ho;have HB:=Lib.hid hb;clear ho hb)
   go_ret2
   exact⟨A1,c1,rfl,HO.out,HB.out⟩
  ·have d1:(way==1)=false:=by rw[beq_eq_false_iff_ne];exact c1
   have d2:(way==2)=false:=by rw[beq_eq_false_iff_ne];exact c2
   have eR:wR way=4:=by unfold wR;rw[if_neg c1]
   have eU:wU way=0:=by unfold wU;rw[if_neg c1,if_neg c2]
   rw[eR,eU]
   have HP:Hid (Calls Tryz.prog 47 #[.int .i64 i,.int .i64 4,.int .u8 0] w (PutD i 4 0 w)):=Lib.hid (Y_PutO i 4 0 w)
   unfold PutD at HP ⊢
   generalize putL i (4:Nat) 0=pl at *
   generalize putE i (4:Nat)=pe at *
   go_enter Tryz.func50,Tryz.ntmps50
   go_wp2_with (go_at_call 47;(with_reducible refine HP.out.mono ?_);rintro e w1 ⟨A1,c1,rfl,ho,hb⟩;have HO:=Lib.hid ho;have HB:=Lib.hid hb;clear ho hb)
   go_ret2
   exact⟨A1,c1,rfl,HO.out,HB.out⟩
end Go.Proofs.YtahiajeggbpogaaGreatDoor
