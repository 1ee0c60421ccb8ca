import Derived.Test.YtahiajeggbpogaaGreatDoorPkB
import Derived.Test.YtahiajeggbpogaaGreatDoorGJointW
set_option maxRecDepth 100000
set_option maxHeartbeats 4000000
namespace Go.Proofs.YtahiajeggbpogaaGreatDoor
open Go.RowKit Go.Shelf Px Tx Tb Up Pk
set_option linter.unusedVariables false
set_option linter.unusedSimpArgs false
attribute [local go_sem] Oper.semAt_some
namespace Pk
def eT(x:Fd×Nat):Array Value:=#[.func (.func 120) #[] #[.pointer (some ⟨x.2,0,none⟩)]]
def VT(ls:List Fd)(I:List (Fd×Nat)→Unit→World→Prop)(pre:List (Fd×Nat))(s:Unit)(x:Fd×Nat)(s':Unit)(W1:World):Prop:=
 ∃W0,I pre s W0∧Below W0.heap.size W0 W1∧W0.heap.size≤x.2∧W1.heap[x.2]? = some (.cells #[.string x.1.1,.string x.1.2] 27)∧ls[pre.length]? = some x.1
theorem map_take{ls:List Fd}{pre:List (Fd×Nat)}{x:Fd×Nat}(h:pre.map Prod.fst=ls.take pre.length)(hx:ls[pre.length]? = some x.1):(pre++[x]).map Prod.fst=ls.take (pre++[x]).length:=by
 rw[List.map_append,h,List.length_append]
 exact take_snoc hx
end Pk
theorem tellings1_in(k:Nat)(hk:1≤k)(l B1:Nat)(LA:Option Addr)(ln lc:Nat)(ls:List Fd)(I:List (Fd×Nat)→Unit→World→Prop)(J:List (Fd×Nat)→Unit→World→Prop)(X:List (Fd×Nat)→World→Prop)(W:World)
  (hJI : ∀pre s A,J pre s A→I pre s A) (hJB : ∀pre s s' A B,J pre s A→Mv A B→I pre s' B→J pre s' B)
  (hI : ∀pre W,I pre () W→Fs W W.heap.size LA ln ls∧W.cell? ⟨B1,0,none⟩=some (.slice LA ln lc)∧∀W',Below W.heap.size W W'→I pre () W')
  (hn:ln≤1000000)
  (hY : ∀pre s x s' W1,J pre s' W1→VT ls I pre s x s' W1→YieldAt Fence.wide (k-1) Tryz.prog l (eT x) W1 fun e W'=>(e = .returned (.bool true)∧J (pre++[x]) s' W')∨(e = .returned (.bool false)∧X (pre++[x]) W'))
  (h0:J [] () W) :
  CallsIn Fence.wide k Tryz.prog 101 #[.func (.yield l) #[] #[],.pointer (some ⟨B1,0,none⟩)] W fun e W'=>(∃v,e = .returned v)∧((∃xs s,xs.map Prod.fst=ls∧J xs s W')∨(∃xs,True∧X xs W')):=by
 have HY:=Lib.hid hY
 have HJI:=Lib.hid hJI
 have HJB:=Lib.hid hJB
 have HI:=Lib.hid hI
 have hll:=(hI [] W (hJI _ _ _ h0)).1.1
 have cB:=(hI [] W (hJI _ _ _ h0)).2.1
 have HLL:=Lib.hid hll
 clear hY hJI hJB hI hll
 refine callsIn_of_wp Tryz.func101 rfl trivial ?_ rfl
 simp only[Tryz.ntmps101,List.size_toArray,List.length_cons,List.length_nil,Nat.reduceAdd,Nat.reduceSub,Array.replicate_succ,Array.replicate_zero,List.push_toArray,List.append_toArray,List.nil_append,List.cons_append]
 gi_wp2
 gi_loopw [7] (fun t wr=>∃pre:List (Fd×Nat),t = .int .i64 (pre.length:Int)∧pre.length≤ln∧pre.map Prod.fst=ls.take pre.length∧J pre () wr) (fun t _=>ln-(intOf t).toNat)
 case atStart=>exact⟨[],rfl,Nat.zero_le _,rfl,h0⟩
 case round=>
  obtain⟨pre,rfl,hle,htk,hJ⟩:=hrel
  obtain⟨j,hj⟩ : ∃j,pre.length=j:=⟨_,rfl⟩
  have HJ:=Lib.hid hJ
  have HT:=Lib.hid htk
  have HL:=Lib.hid hj
  rw[hj] at hle ⊢
  clear hJ htk h0 hj cB
  by_cases hlt:j<ln
  ·obtain⟨hfs,hcb,hst⟩:=HI.out pre wr (HJI.out _ _ _ HJ.out)
   obtain⟨b,o,rfl,hb,hcc⟩:=fs_cell hfs (by omega)
   obtain⟨x,hx,h1,h2⟩:=hcc j hlt
   rw[←Nat.add_assoc] at h2
   have HST:=Lib.hid hst
   have HX:=Lib.hid (show ls[pre.length]? = some (x,wr.heap.size+1).1 by rw[HL.out];exact hx)
   clear hcc hst hfs hcb hx
   have HW:Hid (∀w1:World,(wr.alloc (.cells #[.string x.1,.string x.2] 27)).alloc (.cells #[.string x.1,.string x.2] 27)=w1→J pre () w1∧VT ls I pre () (x,wr.heap.size+1) () w1):=Lib.hid fun w1 hw1=>by
    have hbl:Below wr.heap.size wr w1:=hw1 ▸ ((Below.refl wr.heap.size wr).alloc (Nat.le_refl _) _).alloc (by simp) _
    refine⟨HJB.out _ _ _ _ _ HJ.out (Mv.below hbl) (HST.out _ hbl),wr,HJI.out _ _ _ HJ.out,hbl,Nat.le_succ _,?_,HX.out⟩
    rw[←hw1]
    have h:=World.alloc_heap_new (wr.alloc (.cells #[.string x.1,.string x.2] 27)) (.cells #[.string x.1,.string x.2] 27)
    rwa [World.size_alloc] at h
   gi_wp2_with (first
    | (refine⟨trivial,?_⟩;gi_at_call 102;(with_reducible refine(callsIn_wide.2 (c_of x.1 x.2 _)).mono ?_);rintro e w1 ⟨rfl,hw1⟩;obtain⟨hJ2,hV2⟩:=HW.out _ hw1;obtain⟨fn,tmps,assign,body,hy,hR⟩:=HY.out pre () (x,wr.heap.size+1) () _ hJ2 hV2;have HRR:=Lib.hid hR;unfold eT at hy;clear hR hw1 hJ2 hV2)
    | (refine⟨trivial,?_⟩;go_at_K))
   refine HRR.out.mono ?_
   rintro e w4 (⟨rfl,hJ4⟩ | ⟨rfl,hX4⟩)
   ·have HJ4:=Lib.hid hJ4
    have HT4:=Lib.hid (map_take (x:=(x,wr.heap.size+1)) HT.out HX.out)
    have HL4:Hid ((pre++[(x,wr.heap.size+1)]).length=j+1):=Lib.hid (by rw[List.length_append,HL.out];rfl)
    clear hJ4
    gi_wp2
    go_roundw
    case rel=>exact⟨pre++[(x,wr.heap.size+1)],by rw[HL4.out];go_num,by rw[HL4.out];omega,HT4.out,HJ4.out⟩
    case measure=>simp[intOf];omega
   ·gi_wp2
    exact bodyPost_ret (results_none rfl _ _ _) rfl ⟨⟨_,rfl⟩,.inr ⟨_,trivial,hX4⟩⟩
  ·obtain rfl:j=ln:=by omega
   gi_wp2
   refine bodyPost_end (results_none rfl _ _ _) rfl ⟨⟨_,rfl⟩,.inl ⟨pre,(),?_,HJ.out⟩⟩
   rw[HT.out,List.take_of_length_le (by rw[HL.out,HLL.out];exact Nat.le_refl _)]
end Go.Proofs.YtahiajeggbpogaaGreatDoor
