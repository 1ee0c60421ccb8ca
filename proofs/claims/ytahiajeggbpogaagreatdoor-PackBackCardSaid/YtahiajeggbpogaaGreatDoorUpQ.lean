import Derived.Test.YtahiajeggbpogaaGreatDoorUpPo
set_option maxRecDepth 100000
set_option maxHeartbeats 4000000
namespace Go.Proofs.YtahiajeggbpogaaGreatDoor
open Go.RowKit Go.Shelf Px Tx Tb Up
set_option linter.unusedVariables false
set_option linter.unusedSimpArgs false
attribute [local go_sem] Oper.semAt_some
theorem Up.env_c2{w:World}{b:Nat}{x y:Value}{t:TypeId}(h:EnvF w [] [(b,#[x,y],t)]):w.cell? ⟨b,0,none⟩=some x∧w.cell? ⟨b,1,none⟩=some y:=cells2_row (h.row 0 rfl)
def Up.PutD(n:Int)(r u:Nat)(w:World)(e:Ending)(w':World):Prop:=∃A c,e = .returned (.tuple #[.slice A (putL n r u).length c,.int .i64 (putE n r)])∧OwnB w' w.heap.size 5 (.slice A (putL n r u).length c) (putL n r u)∧Below w.heap.size w w'
theorem X_PutO(n:Int)(k:Nat)(u:UInt8)(w:World) :
  Calls Tryz.prog 70 #[.int .i64 n,.int .i64 (k:Int),.int .u8 (u.toNat:Int)] w (PutD n k u.toNat w):=by
 by_cases h:MayN n k
 ·unfold PutD
  rw[putE_yes h]
  obtain⟨a,b,rfl,e2,h1,h8,ha⟩:=may_nat h
  obtain rfl:k=b:=by omega
  rw[putL_yes h,numB_len_putN]
  exact x_put_own a k u w h1 h8 ha
 ·unfold PutD
  rw[putE_no h,putL_no h]
  refine(x_put_no n k u w h).mono ?_
  rintro e w' ⟨rfl,hb⟩
  exact⟨none,0,rfl,OwnB.nil_ _ _ _,hb⟩
theorem u_putIndexed(n:Int)(w:World) :
  Calls Tryz.prog 46 #[.agg #[.int .u8 1,.int .u8 1],.int .i64 n] w (PutD n 7 128 w):=by
 have HR:Hid (∀W:World,Calls Tryz.prog 71 #[.agg #[.int .u8 1,.int .u8 1]] W fun e w'=>e = .returned (.int .i64 7)∧Below W.heap.size W w'):=Lib.hid (fun W=>u_rest 1 1 W (by omega))
 have HP:Hid (∀W:World,Calls Tryz.prog 70 #[.int .i64 n,.int .i64 7,.int .u8 (IntKind.u8.wrap 128)] W fun e w'=>∃A c,e = .returned (.tuple #[.slice A (putL n 7 128).length c,.int .i64 (putE n 7)])∧OwnB w' W.heap.size 5 (.slice A (putL n 7 128).length c) (putL n 7 128)∧Below W.heap.size W w'):=Lib.hid (fun W=>X_PutO n 7 128 W)
 unfold PutD
 rw[show(((7:Nat):Int))=7 from rfl]
 obtain⟨pl,hpl⟩ : ∃l,putL n 7 128=l:=⟨_,rfl⟩
 obtain⟨pe,hpe⟩ : ∃l,putE n 7=l:=⟨_,rfl⟩
 rw[hpl,hpe] at HP ⊢
 clear hpl hpe
 have S0:=Lib.hid ((EnvF.nil w).boxg 72 #[.int .u8 1,.int .u8 1] w.heap.size rfl)
 have B0:=Lib.hid ((Below.refl w.heap.size w).alloc (Nat.le_refl _) (.cells #[.int .u8 1,.int .u8 1] 72))
 go_enter Tryz.func46,Tryz.ntmps46
 go_wp2
 go_region_held3 (fun W'=>W'.cell? ⟨w.heap.size,0,none⟩=some (.int .u8 1)∧W'.cell? ⟨w.heap.size,1,none⟩=some (.int .u8 1)) (first | with_reducible exact env_c2 S3.out | with_reducible exact(env_c2 S3.out).1 | with_reducible exact(env_c2 S3.out).2 | with_reducible exact env_c2 S2.out | with_reducible exact env_c2 S1.out | with_reducible exact env_c2 S0.out | exact env_c2 S0.out.drew)
  (first
   | (go_at_call 71;(with_reducible refine(HR.out _).mono ?_);rintro e w2 ⟨rfl,hb⟩;have S2:=Lib.hid (S1.out.on hb);have B2:=Lib.hid (below_step B1.out hb);clear hb)
   | (go_at_call 71;(with_reducible refine(HR.out _).mono ?_);rintro e w1 ⟨rfl,hb⟩;have S1:=Lib.hid (S0.out.drew.on hb);have B1:=Lib.hid (below_step B0.out.drew hb);clear hb)
   | (go_at_call 70;(with_reducible refine(HP.out _).mono ?_);rintro e w3 ⟨A3,c3,rfl,hh,hb⟩;have HH:=Lib.hid hh;have S3:=Lib.hid (S2.out.on hb);have HZ3:=Lib.hid B2.out.size;have B3:=Lib.hid (below_step B2.out hb);clear hh hb))
 go_wp2
 go_ret2
 exact⟨A3,c3,rfl,HH.out.less HZ3.out,B3.out⟩
theorem u_putAdded(n:Int)(w:World) :
  Calls Tryz.prog 46 #[.agg #[.int .u8 2,.int .u8 1],.int .i64 n] w (PutD n 6 64 w):=by
 have HR:Hid (∀W:World,Calls Tryz.prog 71 #[.agg #[.int .u8 2,.int .u8 1]] W fun e w'=>e = .returned (.int .i64 6)∧Below W.heap.size W w'):=Lib.hid (fun W=>u_rest 2 1 W (by omega))
 have HP:Hid (∀W:World,Calls Tryz.prog 70 #[.int .i64 n,.int .i64 6,.int .u8 (IntKind.u8.wrap 64)] W fun e w'=>∃A c,e = .returned (.tuple #[.slice A (putL n 6 64).length c,.int .i64 (putE n 6)])∧OwnB w' W.heap.size 5 (.slice A (putL n 6 64).length c) (putL n 6 64)∧Below W.heap.size W w'):=Lib.hid (fun W=>X_PutO n 6 64 W)
 unfold PutD
 rw[show(((6:Nat):Int))=6 from rfl]
 obtain⟨pl,hpl⟩ : ∃l,putL n 6 64=l:=⟨_,rfl⟩
 obtain⟨pe,hpe⟩ : ∃l,putE n 6=l:=⟨_,rfl⟩
 rw[hpl,hpe] at HP ⊢
 clear hpl hpe
 have S0:=Lib.hid ((EnvF.nil w).boxg 72 #[.int .u8 2,.int .u8 1] w.heap.size rfl)
 have B0:=Lib.hid ((Below.refl w.heap.size w).alloc (Nat.le_refl _) (.cells #[.int .u8 2,.int .u8 1] 72))
 go_enter Tryz.func46,Tryz.ntmps46
 go_wp2
 go_region_held3 (fun W'=>W'.cell? ⟨w.heap.size,0,none⟩=some (.int .u8 2)∧W'.cell? ⟨w.heap.size,1,none⟩=some (.int .u8 1)) (first | with_reducible exact env_c2 S3.out | with_reducible exact(env_c2 S3.out).1 | with_reducible exact(env_c2 S3.out).2 | with_reducible exact env_c2 S2.out | with_reducible exact env_c2 S1.out | with_reducible exact env_c2 S0.out | exact env_c2 S0.out.drew)
  (first
   | (go_at_call 71;(with_reducible refine(HR.out _).mono ?_);rintro e w2 ⟨rfl,hb⟩;have S2:=Lib.hid (S1.out.on hb);have B2:=Lib.hid (below_step B1.out hb);clear hb)
   | (go_at_call 71;(with_reducible refine(HR.out _).mono ?_);rintro e w1 ⟨rfl,hb⟩;have S1:=Lib.hid (S0.out.drew.on hb);have B1:=Lib.hid (below_step B0.out.drew hb);clear hb)
   | (go_at_call 70;(with_reducible refine(HP.out _).mono ?_);rintro e w3 ⟨A3,c3,rfl,hh,hb⟩;have HH:=Lib.hid hh;have S3:=Lib.hid (S2.out.on hb);have HZ3:=Lib.hid B2.out.size;have B3:=Lib.hid (below_step B2.out hb);clear hh hb))
 go_wp2
 go_ret2
 exact⟨A3,c3,rfl,HH.out.less HZ3.out,B3.out⟩
theorem u_putSize(n:Int)(w:World) :
  Calls Tryz.prog 46 #[.agg #[.int .u8 3,.int .u8 1],.int .i64 n] w (PutD n 5 32 w):=by
 have HR:Hid (∀W:World,Calls Tryz.prog 71 #[.agg #[.int .u8 3,.int .u8 1]] W fun e w'=>e = .returned (.int .i64 5)∧Below W.heap.size W w'):=Lib.hid (fun W=>u_rest 3 1 W (by omega))
 have HP:Hid (∀W:World,Calls Tryz.prog 70 #[.int .i64 n,.int .i64 5,.int .u8 (IntKind.u8.wrap 32)] W fun e w'=>∃A c,e = .returned (.tuple #[.slice A (putL n 5 32).length c,.int .i64 (putE n 5)])∧OwnB w' W.heap.size 5 (.slice A (putL n 5 32).length c) (putL n 5 32)∧Below W.heap.size W w'):=Lib.hid (fun W=>X_PutO n 5 32 W)
 unfold PutD
 rw[show(((5:Nat):Int))=5 from rfl]
 obtain⟨pl,hpl⟩ : ∃l,putL n 5 32=l:=⟨_,rfl⟩
 obtain⟨pe,hpe⟩ : ∃l,putE n 5=l:=⟨_,rfl⟩
 rw[hpl,hpe] at HP ⊢
 clear hpl hpe
 have S0:=Lib.hid ((EnvF.nil w).boxg 72 #[.int .u8 3,.int .u8 1] w.heap.size rfl)
 have B0:=Lib.hid ((Below.refl w.heap.size w).alloc (Nat.le_refl _) (.cells #[.int .u8 3,.int .u8 1] 72))
 go_enter Tryz.func46,Tryz.ntmps46
 go_wp2
 go_region_held3 (fun W'=>W'.cell? ⟨w.heap.size,0,none⟩=some (.int .u8 3)∧W'.cell? ⟨w.heap.size,1,none⟩=some (.int .u8 1)) (first | with_reducible exact env_c2 S3.out | with_reducible exact(env_c2 S3.out).1 | with_reducible exact(env_c2 S3.out).2 | with_reducible exact env_c2 S2.out | with_reducible exact env_c2 S1.out | with_reducible exact env_c2 S0.out | exact env_c2 S0.out.drew)
  (first
   | (go_at_call 71;(with_reducible refine(HR.out _).mono ?_);rintro e w2 ⟨rfl,hb⟩;have S2:=Lib.hid (S1.out.on hb);have B2:=Lib.hid (below_step B1.out hb);clear hb)
   | (go_at_call 71;(with_reducible refine(HR.out _).mono ?_);rintro e w1 ⟨rfl,hb⟩;have S1:=Lib.hid (S0.out.drew.on hb);have B1:=Lib.hid (below_step B0.out.drew hb);clear hb)
   | (go_at_call 70;(with_reducible refine(HP.out _).mono ?_);rintro e w3 ⟨A3,c3,rfl,hh,hb⟩;have HH:=Lib.hid hh;have S3:=Lib.hid (S2.out.on hb);have HZ3:=Lib.hid B2.out.size;have B3:=Lib.hid (below_step B2.out hb);clear hh hb))
 go_wp2
 go_ret2
 exact⟨A3,c3,rfl,HH.out.less HZ3.out,B3.out⟩
theorem u_putSecret(n:Int)(w:World) :
  Calls Tryz.prog 46 #[.agg #[.int .u8 4,.int .u8 1],.int .i64 n] w (PutD n 4 16 w):=by
 have HR:Hid (∀W:World,Calls Tryz.prog 71 #[.agg #[.int .u8 4,.int .u8 1]] W fun e w'=>e = .returned (.int .i64 4)∧Below W.heap.size W w'):=Lib.hid (fun W=>u_rest 4 1 W (by omega))
 have HP:Hid (∀W:World,Calls Tryz.prog 70 #[.int .i64 n,.int .i64 4,.int .u8 (IntKind.u8.wrap 16)] W fun e w'=>∃A c,e = .returned (.tuple #[.slice A (putL n 4 16).length c,.int .i64 (putE n 4)])∧OwnB w' W.heap.size 5 (.slice A (putL n 4 16).length c) (putL n 4 16)∧Below W.heap.size W w'):=Lib.hid (fun W=>X_PutO n 4 16 W)
 unfold PutD
 rw[show(((4:Nat):Int))=4 from rfl]
 obtain⟨pl,hpl⟩ : ∃l,putL n 4 16=l:=⟨_,rfl⟩
 obtain⟨pe,hpe⟩ : ∃l,putE n 4=l:=⟨_,rfl⟩
 rw[hpl,hpe] at HP ⊢
 clear hpl hpe
 have S0:=Lib.hid ((EnvF.nil w).boxg 72 #[.int .u8 4,.int .u8 1] w.heap.size rfl)
 have B0:=Lib.hid ((Below.refl w.heap.size w).alloc (Nat.le_refl _) (.cells #[.int .u8 4,.int .u8 1] 72))
 go_enter Tryz.func46,Tryz.ntmps46
 go_wp2
 go_region_held3 (fun W'=>W'.cell? ⟨w.heap.size,0,none⟩=some (.int .u8 4)∧W'.cell? ⟨w.heap.size,1,none⟩=some (.int .u8 1)) (first | with_reducible exact env_c2 S3.out | with_reducible exact(env_c2 S3.out).1 | with_reducible exact(env_c2 S3.out).2 | with_reducible exact env_c2 S2.out | with_reducible exact env_c2 S1.out | with_reducible exact env_c2 S0.out | exact env_c2 S0.out.drew)
  (first
   | (go_at_call 71;(with_reducible refine(HR.out _).mono ?_);rintro e w2 ⟨rfl,hb⟩;have S2:=Lib.hid (S1.out.on hb);have B2:=Lib.hid (below_step B1.out hb);clear hb)
   | (go_at_call 71;(with_reducible refine(HR.out _).mono ?_);rintro e w1 ⟨rfl,hb⟩;have S1:=Lib.hid (S0.out.drew.on hb);have B1:=Lib.hid (below_step B0.out.drew hb);clear hb)
   | (go_at_call 70;(with_reducible refine(HP.out _).mono ?_);rintro e w3 ⟨A3,c3,rfl,hh,hb⟩;have HH:=Lib.hid hh;have S3:=Lib.hid (S2.out.on hb);have HZ3:=Lib.hid B2.out.size;have B3:=Lib.hid (below_step B2.out hb);clear hh hb))
 go_wp2
 go_ret2
 exact⟨A3,c3,rfl,HH.out.less HZ3.out,B3.out⟩
theorem u_putPlain(n:Int)(w:World) :
  Calls Tryz.prog 46 #[.agg #[.int .u8 4,.int .u8 0],.int .i64 n] w (PutD n 4 0 w):=by
 have HR:Hid (∀W:World,Calls Tryz.prog 71 #[.agg #[.int .u8 4,.int .u8 0]] W fun e w'=>e = .returned (.int .i64 4)∧Below W.heap.size W w'):=Lib.hid (fun W=>u_rest 4 0 W (by omega))
 have HP:Hid (∀W:World,Calls Tryz.prog 70 #[.int .i64 n,.int .i64 4,.int .u8 (IntKind.u8.wrap 0)] W fun e w'=>∃A c,e = .returned (.tuple #[.slice A (putL n 4 0).length c,.int .i64 (putE n 4)])∧OwnB w' W.heap.size 5 (.slice A (putL n 4 0).length c) (putL n 4 0)∧Below W.heap.size W w'):=Lib.hid (fun W=>X_PutO n 4 0 W)
 unfold PutD
 rw[show(((4:Nat):Int))=4 from rfl]
 obtain⟨pl,hpl⟩ : ∃l,putL n 4 0=l:=⟨_,rfl⟩
 obtain⟨pe,hpe⟩ : ∃l,putE n 4=l:=⟨_,rfl⟩
 rw[hpl,hpe] at HP ⊢
 clear hpl hpe
 have S0:=Lib.hid ((EnvF.nil w).boxg 72 #[.int .u8 4,.int .u8 0] w.heap.size rfl)
 have B0:=Lib.hid ((Below.refl w.heap.size w).alloc (Nat.le_refl _) (.cells #[.int .u8 4,.int .u8 0] 72))
 go_enter Tryz.func46,Tryz.ntmps46
 go_wp2
 go_region_held3 (fun W'=>W'.cell? ⟨w.heap.size,0,none⟩=some (.int .u8 4)∧W'.cell? ⟨w.heap.size,1,none⟩=some (.int .u8 0)) (first | with_reducible exact env_c2 S3.out | with_reducible exact(env_c2 S3.out).1 | with_reducible exact(env_c2 S3.out).2 | with_reducible exact env_c2 S2.out | with_reducible exact env_c2 S1.out | with_reducible exact env_c2 S0.out | exact env_c2 S0.out.drew)
  (first
   | (go_at_call 71;(with_reducible refine(HR.out _).mono ?_);rintro e w2 ⟨rfl,hb⟩;have S2:=Lib.hid (S1.out.on hb);have B2:=Lib.hid (below_step B1.out hb);clear hb)
   | (go_at_call 71;(with_reducible refine(HR.out _).mono ?_);rintro e w1 ⟨rfl,hb⟩;have S1:=Lib.hid (S0.out.drew.on hb);have B1:=Lib.hid (below_step B0.out.drew hb);clear hb)
   | (go_at_call 70;(with_reducible refine(HP.out _).mono ?_);rintro e w3 ⟨A3,c3,rfl,hh,hb⟩;have HH:=Lib.hid hh;have S3:=Lib.hid (S2.out.on hb);have HZ3:=Lib.hid B2.out.size;have B3:=Lib.hid (below_step B2.out hb);clear hh hb))
 go_wp2
 go_ret2
 exact⟨A3,c3,rfl,HH.out.less HZ3.out,B3.out⟩
namespace Up
def wA(way:Int):Nat:=if way=1 then 2 else 4
def wC(way:Int):Nat:=if way=1∨way=2 then 1 else 0
def wR(way:Int):Nat:=if way=1 then 6 else 4
def wU(way:Int):Nat:=if way=1 then 64 else if way=2 then 16 else 0
end Up
theorem u_markOf(way:Int)(w:World)(hM:Mks w) :
  Calls Tryz.prog 48 #[.int .i64 way] w fun e w'=>e = .returned (.agg #[.int .u8 (wA way:Int),.int .u8 (wC way:Int)])∧Below w.heap.size w w':=by
 obtain⟨_,⟨a0,a1⟩,_,⟨s0,s1⟩,p0,p1⟩:=hM
 have lt : ∀{k:Nat} {v:Value},w.cell? ⟨k,0,none⟩=some v→k<w.heap.size∧k≠w.heap.size:=fun h=>by
  obtain⟨o,ho,_⟩:=cells_of_cell h
  have:=(Array.getElem?_eq_some_iff.1 ho).1
  simp only at this
  omega
 obtain⟨n1,n2⟩:=lt a0
 obtain⟨n3,n4⟩:=lt s0
 obtain⟨n5,n6⟩:=lt p0
 by_cases h1:way=1
 ·subst h1
  rw[show wA 1=2 from rfl,show wC 1=1 from rfl]
  go_enter Tryz.func48,Tryz.ntmps48
  go_wp2
  exact bodyPost_ret (res_cell1 rfl _ _ _ _ _ _ rfl (World.alloc_heap_new _ _) Tryz.underlying72 rfl infoc_m) rfl ⟨rfl,(Below.refl _ w).alloc (Nat.le_refl _) _⟩
 ·have e1:(way==1)=false:=beq_eq_false_iff_ne.2 h1
  have d1:decide (way=1)=false:=decide_eq_false h1
  by_cases h2:way=2
  ·subst h2
   rw[show wA 2=4 from rfl,show wC 2=1 from rfl]
   go_enter Tryz.func48,Tryz.ntmps48
   go_wp2
   exact bodyPost_ret (res_cell1 rfl _ _ _ _ _ _ rfl (World.alloc_heap_new _ _) Tryz.underlying72 rfl infoc_m) rfl ⟨rfl,(Below.refl _ w).alloc (Nat.le_refl _) _⟩
  ·have e2:(way==2)=false:=beq_eq_false_iff_ne.2 h2
   have d2:decide (way=2)=false:=decide_eq_false h2
   rw[show wA way=4 from if_neg h1,show wC way=0 from if_neg (fun h=>h.elim h1 h2)]
   go_enter Tryz.func48,Tryz.ntmps48
   go_wp2
   exact bodyPost_ret (res_cell1 rfl _ _ _ _ _ _ rfl (World.alloc_heap_new _ _) Tryz.underlying72 rfl infoc_m) rfl ⟨rfl,(Below.refl _ w).alloc (Nat.le_refl _) _⟩
theorem u_putW(way n:Int)(w:World) :
  Calls Tryz.prog 46 #[.agg #[.int .u8 (wA way:Int),.int .u8 (wC way:Int)],.int .i64 n] w (PutD n (wR way) (wU way) w):=by
 by_cases h1:way=1
 ·subst h1
  exact u_putAdded n w
 ·by_cases h2:way=2
  ·subst h2
   exact u_putSecret n w
  ·rw[show wA way=4 from if_neg h1,show wC way=0 from if_neg (fun h=>h.elim h1 h2),show wR way=4 from if_neg h1,show wU way=0 by unfold wU;rw[if_neg h1,if_neg h2]]
   exact u_putPlain n w
end Go.Proofs.YtahiajeggbpogaaGreatDoor
