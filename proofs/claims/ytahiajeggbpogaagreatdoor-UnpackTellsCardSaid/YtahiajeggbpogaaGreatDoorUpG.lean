import Derived.Test.YtahiajeggbpogaaGreatDoorUpF
set_option maxRecDepth 100000
set_option maxHeartbeats 4000000
namespace Go.Proofs.YtahiajeggbpogaaGreatDoor
open Go.RowKit Go.Shelf Hf Px Tx Tb Up
set_option linter.unusedVariables false
set_option linter.unusedSimpArgs false
attribute [local go_sem] Oper.semAt_some
theorem u_marks(x:UInt8)(w:World):Calls Tryz.prog 84 #[.int .u8 (x.toNat:Int)] w fun e w'=>
   e = .returned (.func (.func 103) #[] #[.pointer (some ⟨w.heap.size,0,none⟩)])∧w.alloc (.cells #[.int .u8 (x.toNat:Int)] 5)=w':=by
 go_enter Tryz.func84,Tryz.ntmps84
 go_wp2
 go_ret
 exact⟨rfl,rfl⟩
def Up.mkE(x:UInt8)(j:Nat):Array Value:=#[.agg #[.int .u8 ((j:Int)+1),.int .u8 ((x.toNat:Int) / 2 ^ (7-j))]]
theorem marks1_in(k:Nat)(hk:1≤k)(l B1:Nat)(x:UInt8)(p:Nat→Prop)(J X:List Nat→World→Prop)(W:World)(hJ:AbidesFrom W.heap.size J)(hp1:p B1)
  (hY : ∀pre (j:Nat) W1,J pre W1→(j=pre.length∧j<4)→pre.length<4→YieldAt Fence.wide (k-1) Tryz.prog l (mkE x j) W1 fun e W'=>(e = .returned (.bool true)∧J (pre++[j]) W'∧Hf.KeepZ p W1 W')∨(e = .returned (.bool false)∧X (pre++[j]) W'))
  (hc1:W.cell? ⟨B1,0,none⟩=some (.int .u8 (x.toNat:Int))) (h0:J [] W) :
  CallsIn Fence.wide k Tryz.prog 103 #[.func (.yield l) #[] #[],.pointer (some ⟨B1,0,none⟩)] W fun e W'=>(∃v,e = .returned v)∧((∃ys,ys.length=4∧J ys W')∨(∃ys,True∧X ys W')):=by
 have HY:=Lib.hid hY
 have HJ:=Lib.hid hJ
 have HC:=Lib.hid hc1
 clear hY hJ hc1
 refine callsIn_of_wp Tryz.func103 rfl trivial ?_ rfl
 simp only[Tryz.ntmps103,List.size_toArray,List.length_cons,List.length_nil,Nat.reduceAdd,Nat.reduceSub,Array.replicate_succ,Array.replicate_zero,List.push_toArray,List.append_toArray,List.nil_append,List.cons_append]
 gi_wp2
 gi_loopw [5] (fun t wr=>∃pre:List Nat,pre.length≤4∧t = .int .i64 (pre.length:Int)∧Hf.KeepZ p W wr∧J pre wr) (fun t _=>4-(intOf t).toNat)
 case atStart=>exact⟨[],by simp,rfl,Hf.KeepZ.refl _ _,h0⟩
 case round=>
  obtain⟨pre,hle,rfl,hkp,hJj⟩:=hrel
  obtain⟨wi,rfl⟩ : ∃wi:World,wi=wr:=⟨_,rfl⟩
  have HK:=Lib.hid hkp
  have HJj:=Lib.hid hJj
  clear hkp hJj h0
  obtain⟨j,hj⟩ : ∃j,pre.length=j:=⟨_,rfl⟩
  have HJL:=Lib.hid hj
  rw[hj] at hle ⊢
  clear hj
  by_cases hlt:j<4
  ·have hcw:wi.cell? ⟨B1,0,none⟩=some (.int .u8 (x.toNat:Int)):=HK.out.1.cell hp1 HC.out
   have hcw' : ∀o,(wi.alloc o).cell? ⟨B1,0,none⟩=some (.int .u8 (x.toNat:Int)):=fun o=>(World.cell?_alloc_lt wi o _ (block_lt_of_cell hcw)).trans hcw
   have hB:B1<wi.heap.size:=block_lt_of_cell hcw
   have e1:IntKind.i64.wrap ((j:Int)+1)=(j:Int)+1:=IntWalk.i64_in _ (by omega)
   have e2:IntKind.u8.wrap ((j:Int)+1)=((j+1:Nat):Int):=by
    obtain rfl | rfl | rfl | rfl:j=0∨j=1∨j=2∨j=3:=by omega
    all_goals rfl
   have hR:=Lib.hid (fun w0=>u_rest (j+1) 0 w0 (by omega))
   rw[show((j+1:Nat):Int)=(j:Int)+1 by omega,show((0:Nat):Int)=0 from rfl,show 8-(j+1)=7-j by omega] at hR
   gi_wp2
   refine wpIn_wide.2 ?_
   refine wp_to (fun a w'=>a={ tmps:=#[.func (.yield l) #[] #[],.pointer (some ⟨B1,0,none⟩),undef,.int .i64 (j:Int),.pointer (some ⟨wi.heap.size,0,none⟩),.int .i64 (j:Int),.bool true,.int .i64 (j:Int),.int .i64 (j:Int),.int .i64 ((j:Int)+1),.int .u8 ((j:Int)+1),.agg #[.int .u8 ((j:Int)+1),.int .u8 0],.int .u8 (x.toNat:Int),.agg #[.int .u8 ((j:Int)+1),.int .u8 0],.int .i64 ((7-j:Nat):Int),.int .u8 ((x.toNat:Int) / 2 ^ (7-j)),.pointer (some ⟨wi.heap.size,1,none⟩),u17,u18,u19,u20,u21],defers:=[] }∧w'.heap[wi.heap.size]? = some (.cells #[.int .u8 ((j:Int)+1),.int .u8 ((x.toNat:Int) / 2 ^ (7-j))] 72)∧Below wi.heap.size wi w') ?_ ?_
   ·go_region_with (go_at_call 71;(with_reducible refine(hR.out _).mono ?_);rintro e w1 ⟨rfl,hb1⟩;have hr1:w1.heap[wi.heap.size]? = some (.cells #[.int .u8 ((j:Int)+1),.int .u8 0] 72):=(hb1.block wi.heap.size (by simp)).trans (World.alloc_heap_new wi _);have c10:=(cells2_row hr1).1;have c11:=(cells2_row hr1).2;have hfz:=frozen_of_row w1 wi.heap.size 1 _ _ hr1;have hcb:=(hb1.cell (p:=⟨B1,0,none⟩) (by simp;omega)).trans (hcw' _))
    all_goals exact⟨rfl,(Go.heap_setCell_same w1 wi.heap.size 1 _ _ _ hr1).trans rfl,(below_step (((Below.refl _ wi).alloc (Nat.le_refl _) _).drew) hb1).setCell (p:=⟨wi.heap.size,1,none⟩) (Nat.le_refl _) _⟩
   rintro a w3 ⟨rfl,hr3,hb3⟩
   have hp3:=AbidesFrom.below HJ.out HJj.out hb3
   obtain⟨fn,tmps,assign,body,hy,hR⟩:=HY.out pre j w3 hp3 ⟨HJL.out.symm,hlt⟩ (by rw[HJL.out];exact hlt)
   have HRR:=Lib.hid hR
   have HB3:=Lib.hid hb3
   have HR3:=Lib.hid hr3
   unfold mkE at hy
   clear hR hb3 hr3 hp3 hcw hcw'
   obtain⟨q0,q1⟩:=cells2_row HR3.out
   gi_wp2
   refine HRR.out.mono ?_
   rintro e w4 (⟨rfl,hJ4,hk4⟩ | ⟨rfl,hX⟩)
   ·have HJ4:=Lib.hid hJ4
    have HK4:=Lib.hid hk4
    clear hJ4 hk4 q0 q1
    gi_wp2
    go_roundw
    case rel=>exact⟨pre++[j],by rw[List.length_append,HJL.out];simp;omega,by rw[List.length_append,HJL.out];simp,HK.out.trans ((Hf.KeepZ.below (HB3.out)).trans HK4.out),HJ4.out⟩
    case measure=>simp[intOf];omega
   ·gi_wp2
    exact bodyPost_ret (results_none rfl _ _ _) rfl ⟨⟨_,rfl⟩,.inr ⟨_,trivial,hX⟩⟩
  ·obtain rfl:j=4:=by omega
   gi_wp2
   go_end0
   exact⟨⟨_,rfl⟩,.inl ⟨pre,HJL.out,HJj.out⟩⟩
theorem marks_stops(k:Nat)(hk:1≤k)(B1:Nat)(x:UInt8)(p:Nat→Prop)(w:World)(hp1:p B1)(hB1:B1<w.heap.size)(hc1:w.cell? ⟨B1,0,none⟩=some (.int .u8 (x.toNat:Int))) :
  SeqX Fence.wide k Tryz.prog 103 #[.pointer (some ⟨B1,0,none⟩)] (mkE x) (Hf.KeepZ p) (fun _ _=>False) (fun pre j _=>j=pre.length∧j<4) (fun ys=>ys.length=4) (fun _=>True) 4 w:=fun l J X W hW hJ hSt hY h0=>
 marks1_in k hk l B1 x p J X W hJ hp1 (fun pre j W1 hj hv hl=>hY pre j W1 hj hv hl) ((hW.cell (p:=⟨B1,0,none⟩) hB1).trans hc1) h0
end Go.Proofs.YtahiajeggbpogaaGreatDoor
