import Derived.Test.YtahiajeggbpogaaGreatDoorMTb
import Derived.Test.YtahiajeggbpogaaGreatDoorMGa
import Derived.DeepKeys4
set_option maxRecDepth 100000
set_option maxHeartbeats 4000000
namespace Go.Proofs.YtahiajeggbpogaaGreatDoor
open Go.RowKit Tb
set_option linter.unusedVariables false
set_option linter.unusedSimpArgs false
theorem Tb.ret2{a:Int}{b:Bool}{a':Int}{b':Bool}(h:a=a')(k:b=b'):Ending.returned (.tuple #[.int .i64 a,.bool b]) = .returned (.tuple #[.int .i64 a',.bool b']):=by rw[h,k]
end Go.Proofs.YtahiajeggbpogaaGreatDoor
namespace Go.Proofs.YtahiajeggbpogaaGreatDoor
open Go.RowKit Tb Go.Shelf
set_option linter.unusedVariables false
set_option linter.unusedSimpArgs false
attribute [local go_sem] Oper.semAt_some
namespace Tb
def small(x:Fd):Prop:=x.1.size≤maxLen∧x.2.size≤maxLen
theorem stat_all:(stat.all fun x=>decide (x.1.size≤100)&&decide (x.2.size≤100))=true:=rfl
theorem stat_small{x:Fd}{k:Nat}(h:stat[k]? = some x):small x:=by
 have:=List.all_eq_true.1 stat_all x (List.mem_of_getElem? h)
 rw[Bool.and_eq_true] at this
 have h1:=of_decide_eq_true this.1
 have h2:=of_decide_eq_true this.2
 unfold small maxLen
 omega
theorem small_of{xs:List Fd}{x:Fd}{k:Nat}(hx:xs[k]? = some x)(h:full xs≤1000000):small x:=by
 have h1:=sz_le hx
 unfold sz at h1
 unfold small maxLen
 omega
def num(l:List Fd):List (Nat×Fd):=(l.zipIdx 1).map Prod.swap
theorem num_snoc(l:List Fd)(x:Fd):num (l++[x])=num l++[(l.length+1,x)]:=by
 unfold num
 rw[List.zipIdx_append,List.map_append]
 simp[List.zipIdx_cons,Nat.add_comm]
theorem num_len(l:List Fd):(num l).length=l.length:=by simp[num]
theorem run_stat{w:World}(h:Stv w):(loadVar 133 ⟨5,0,none⟩).run Tryz.prog w = .ok statV w:=by
 have hl:(loadCells ⟨5,0,none⟩ statA.toList.length).run Tryz.prog w = .ok statA.toList.toArray w:=
  run_loadCells_list (P:=Tryz.prog) w ⟨5,0,none⟩ statA.toList (fun j v hv=>by
   have hadd:(⟨5,0,none⟩:Addr).add j=⟨5,j,none⟩:=by unfold Addr.add;split<;>simp_all
   rw[hadd]
   exact h j v (by simpa using hv))
 have hagg:(isAgg 133).run Tryz.prog w = .ok true w:=by kernel_rfl
 have hsz:(sizeOf 133).run Tryz.prog w = .ok 40 w:=by kernel_rfl
 have e12:statA.toList.length=40:=rfl
 rw[e12] at hl
 simp only[Array.toArray_toList] at hl
 simp[loadVar,Sem.run_bind,hagg,hsz,hl]
 rfl
theorem wpListIn_stat{F:Fence}{fu:Nat}{w:World}{ops:Array Oper}{rest:List Oper}{o:Oper}{a:Act}{Q:Exit→Act→World→Prop}(h:Stv w)(hgd:o.guard=none)(ho:o.op = .load 133 (.global 5))
  (hK:wpListIn F fu Tryz.prog ops Q rest (a.put o.dst statV) w):wpListIn F fu Tryz.prog ops Q (o::rest) a w:=by
 refine wpListIn_plain hgd fun K hK'=>?_
 unfold Oper.wpIn
 refine⟨?_,?_⟩
 ·simp[Oper.about,ho,resolve,Target.leads,Sem.run_pure]
 ·rw[Oper.semAt_plain F _ _ (by rw[ho];intro c hc';cases hc')]
  have hx:a.eval (.global 5) = .pointer (some ⟨5,0,none⟩):=rfl
  unfold execOp
  simp only[ho,hx,Instr.loadAt,Instr.sureAddr,Sem.run_bind,Sem.run_pure,Result.andThen_ok,run_stat h]
  exact hK' _ _ hK
theorem idx0(w:World):(Instr.index 133 statV (.int .i64 0)).run Tryz.prog w = .ok (sv 0) w:=by kernel_rfl
theorem idx1(w:World):(Instr.index 133 statV (.int .i64 1)).run Tryz.prog w = .ok (sv 1) w:=by kernel_rfl
theorem idx2(w:World):(Instr.index 133 statV (.int .i64 2)).run Tryz.prog w = .ok (sv 2) w:=by kernel_rfl
theorem idx3(w:World):(Instr.index 133 statV (.int .i64 3)).run Tryz.prog w = .ok (sv 3) w:=by kernel_rfl
theorem idx4(w:World):(Instr.index 133 statV (.int .i64 4)).run Tryz.prog w = .ok (sv 4) w:=by kernel_rfl
theorem idx5(w:World):(Instr.index 133 statV (.int .i64 5)).run Tryz.prog w = .ok (sv 5) w:=by kernel_rfl
theorem idx6(w:World):(Instr.index 133 statV (.int .i64 6)).run Tryz.prog w = .ok (sv 6) w:=by kernel_rfl
theorem idx7(w:World):(Instr.index 133 statV (.int .i64 7)).run Tryz.prog w = .ok (sv 7) w:=by kernel_rfl
theorem idx8(w:World):(Instr.index 133 statV (.int .i64 8)).run Tryz.prog w = .ok (sv 8) w:=by kernel_rfl
theorem idx9(w:World):(Instr.index 133 statV (.int .i64 9)).run Tryz.prog w = .ok (sv 9) w:=by kernel_rfl
theorem idx10(w:World):(Instr.index 133 statV (.int .i64 10)).run Tryz.prog w = .ok (sv 10) w:=by kernel_rfl
theorem idx11(w:World):(Instr.index 133 statV (.int .i64 11)).run Tryz.prog w = .ok (sv 11) w:=by kernel_rfl
theorem idx12(w:World):(Instr.index 133 statV (.int .i64 12)).run Tryz.prog w = .ok (sv 12) w:=by kernel_rfl
theorem idx13(w:World):(Instr.index 133 statV (.int .i64 13)).run Tryz.prog w = .ok (sv 13) w:=by kernel_rfl
theorem idx14(w:World):(Instr.index 133 statV (.int .i64 14)).run Tryz.prog w = .ok (sv 14) w:=by kernel_rfl
theorem idx15(w:World):(Instr.index 133 statV (.int .i64 15)).run Tryz.prog w = .ok (sv 15) w:=by kernel_rfl
theorem idx16(w:World):(Instr.index 133 statV (.int .i64 16)).run Tryz.prog w = .ok (sv 16) w:=by kernel_rfl
theorem idx17(w:World):(Instr.index 133 statV (.int .i64 17)).run Tryz.prog w = .ok (sv 17) w:=by kernel_rfl
theorem idx18(w:World):(Instr.index 133 statV (.int .i64 18)).run Tryz.prog w = .ok (sv 18) w:=by kernel_rfl
theorem idx19(w:World):(Instr.index 133 statV (.int .i64 19)).run Tryz.prog w = .ok (sv 19) w:=by kernel_rfl
theorem idx_stat(w:World) : ∀k:Nat,k<20→(Instr.index 133 statV (.int .i64 (k:Int))).run Tryz.prog w = .ok (sv k) w
 | 0,_=>idx0 w
 | 1,_=>idx1 w
 | 2,_=>idx2 w
 | 3,_=>idx3 w
 | 4,_=>idx4 w
 | 5,_=>idx5 w
 | 6,_=>idx6 w
 | 7,_=>idx7 w
 | 8,_=>idx8 w
 | 9,_=>idx9 w
 | 10,_=>idx10 w
 | 11,_=>idx11 w
 | 12,_=>idx12 w
 | 13,_=>idx13 w
 | 14,_=>idx14 w
 | 15,_=>idx15 w
 | 16,_=>idx16 w
 | 17,_=>idx17 w
 | 18,_=>idx18 w
 | 19,_=>idx19 w
 | n+20,h=>absurd h (by omega)
theorem idx_at(w:World){k:Nat}{x:Fd}(hk:k<20)(hx:stat[k]? = some x):(Instr.index 133 statV (.int .i64 (k:Int))).run Tryz.prog w = .ok (.agg #[.string x.1,.string x.2]) w:=by
 have h:=idx_stat w k hk
 unfold sv at h
 rw[show stat.getD k fd0=x from by rw[List.getD_eq_getElem?_getD,hx];rfl] at h
 exact h
theorem L_stat{xs:List Fd}{j:Nat}(hj:j<20):(stat++xs)[j]? = stat[j]?:=List.getElem?_append_left (by rw[stat_len];exact hj)
theorem L_row{xs:List Fd}{j:Nat}:(stat++xs)[20+j]? = xs[j]?:=by
 rw[List.getElem?_append_right (by rw[stat_len];omega),stat_len,Nat.add_sub_cancel_left]
theorem num_step{l:List Fd}{j:Nat}{x:Fd}(hx:l[j]? = some x):num (l.take j)++[(j+1,x)]=num (l.take (j+1)):=by
 have hl:=(List.getElem?_eq_some_iff.1 hx).1
 rw[←take_snoc hx,num_snoc,List.length_take,Nat.min_eq_left (by omega)]
end Tb
theorem tfields1_in(k:Nat)(hk:1≤k)(l B1 n c:Nat)(M:Int)(A:Option Addr)(xs:List Fd)(p:Nat→Prop)(J Jx:List (Nat×Fd)→World→Prop)(W:World)(hR:Stv W)(hJ:AbidesFrom W.heap.size J)
  (hp0:p 5) (hp1:p B1) (hpA:0<n→∀b o,A=some ⟨b,o,none⟩→p b) (hn:n≤1000000) (hF:full xs≤1000000)
  (hY : ∀pre (x:Nat×Fd) W1,J pre W1→pre.length<20+n→small x.2→YieldAt Fence.wide (k-1) Tryz.prog l #[.int .i64 (x.1:Int),.agg #[.string x.2.1,.string x.2.2]] W1 fun e W'=>
   (e = .returned (.bool true)∧J (pre++[x]) W'∧KeepC p W1 W'∧W1.heap.size≤W'.heap.size)∨(e = .returned (.bool false)∧Jx (pre++[x]) W'))
  (hc0:W.cell? ⟨B1,0,none⟩=some (.int .i64 M)) (hc1:W.cell? ⟨B1,1,none⟩=some (.slice A n c)) (hA:Fs W W.heap.size A n xs) (h0:J [] W) :
  CallsIn Fence.wide k Tryz.prog 157 #[.func (.yield l) #[] #[],.pointer (some ⟨B1,0,none⟩)] W fun e W'=>(∃v,e = .returned v)∧
   ((∃ys,ys=num (stat++xs)∧J ys W')∨(∃pre,True∧Jx pre W')):=by
 have HY:=Lib.hid hY
 have HR:=Lib.hid hR
 have HJA:=Lib.hid hJ
 have HP0:=Lib.hid hp0
 have HP1:=Lib.hid hp1
 have HPA:=Lib.hid hpA
 have HC0:=Lib.hid hc0
 have HC1:=Lib.hid hc1
 have HA:=Lib.hid hA
 have hlx:=hA.1
 have hLL:(stat++xs).length=20+n:=by rw[List.length_append,stat_len,hlx]
 have HLL:=Lib.hid hLL
 clear hY hR hJ hp0 hp1 hpA hc0 hc1 hA hLL
 refine callsIn_of_wp Tryz.func157 rfl trivial ?_ rfl
 simp only[Tryz.ntmps157,List.size_toArray,List.length_cons,List.length_nil,Nat.reduceAdd,Nat.reduceSub,Array.replicate_succ,Array.replicate_zero,List.push_toArray,List.append_toArray,List.nil_append,List.cons_append]
 gi_wp2_with (with_reducible refine wpListIn_stat HR.out rfl rfl ?_)
 gi_loopw [8] (fun t wr=>∃(j:Nat) (X:Int),X=(j:Int)∧j≤20∧t = .int .i64 X∧KeepC p W wr∧W.heap.size≤wr.heap.size∧J (num ((stat++xs).take j)) wr) (fun t _=>20-(intOf t).toNat)
 case atStart=>exact⟨0,0,rfl,Nat.zero_le _,rfl,KeepC.refl _ _,Nat.le_refl _,h0⟩
 case round=>
  obtain⟨j,X,hX,hj,rfl,hkp,hsz,hJj⟩:=hrel
  have HK:=Lib.hid hkp
  have HJ:=Lib.hid hJj
  clear hkp hJj h0
  by_cases hlt:j<20
  ·subst hX
   obtain⟨x,hx,_⟩:=stat_at j hlt
   have hi:=idx_at wr hlt hx
   have HX:=Lib.hid ((L_stat (xs:=xs) hlt).trans hx)
   have hbl:Below wr.heap.size wr (wr.alloc (.cells #[.string x.1,.string x.2] 27)):=(Below.refl _ wr).alloc (Nat.le_refl _) _
   have hJ2:J (num ((stat++xs).take j)) (wr.alloc (.cells #[.string x.1,.string x.2] 27)):=HJA.out _ wr (wr.alloc (.cells #[.string x.1,.string x.2] 27)) none HJ.out (grown_none hbl) (fun r e=>by cases e)
   have HK2:=Lib.hid (HK.out.trans (KeepC.below (p:=p) hbl))
   obtain⟨fn,tmps,assign,body,hy,hRR⟩:=HY.out _ (j+1,x) _ hJ2 (by rw[num_len,List.length_take,HLL.out];omega) (stat_small hx)
   rw[num_step HX.out] at hRR
   have HRR:=Lib.hid hRR
   rw[show((((j+1,x):Nat×Fd).1:Nat):Int)=(j:Int)+1 by simp] at hy
   simp only at hy
   clear hx hJ2 hRR hbl
   gi_wp2
   refine HRR.out.mono ?_
   rintro e W4 (⟨rfl,hJ4,hk4,hz4⟩ | ⟨rfl,hJx4⟩)
   ·have HK4:=Lib.hid (HK2.out.trans hk4)
    have HZ4:=Lib.hid (show W.heap.size≤W4.heap.size by rw[World.size_alloc] at hz4;omega)
    have HJ4:=Lib.hid hJ4
    clear hk4 hz4 hJ4
    gi_wp2
    go_roundw
    case rel=>exact⟨j+1,(j:Int)+1,by omega,by omega,rfl,HK4.out,HZ4.out,HJ4.out⟩
    case measure=>simp[intOf];omega
   ·have HJX:=Lib.hid hJx4
    clear hJx4
    gi_wp2
    refine bodyPost_ret (results_none rfl _ _ _) rfl ?_
    exact⟨⟨_,rfl⟩,.inr ⟨_,trivial,HJX.out⟩⟩
  ·obtain rfl:j=20:=by omega
   have d20:decide (X<20)=false:=decide_eq_false (by omega)
   have hX2:=Lib.hid hX
   clear hX
   have c0:=HK.out.cell (a:=⟨B1,0,none⟩) HP1.out HC0.out
   have c1:=HK.out.cell (a:=⟨B1,1,none⟩) HP1.out HC1.out
   gi_wp2
   gi_loopw [22] (fun t wr=>∃j:Nat,j≤n∧t = .int .i64 (j:Int)∧KeepC p W wr∧W.heap.size≤wr.heap.size∧J (num ((stat++xs).take (20+j))) wr) (fun t _=>n-(intOf t).toNat)
   case atStart=>exact⟨0,Nat.zero_le _,rfl,HK.out,hsz,HJ.out⟩
   case round=>
    obtain⟨j,hj2,rfl,hkp,hsz2,hJj⟩:=hrel
    have HK1:=Lib.hid hkp
    have HJ1:=Lib.hid hJj
    clear hkp hJj c0 c1 HK HJ hsz hj
    by_cases hlt2:j<n
    ·obtain⟨b,o,rfl,hb,hcc⟩:=fs_cell HA.out (by omega)
     obtain⟨x,hx,g1,g2⟩:=hcc j hlt2
     have h1:=HK1.out.cell (a:=⟨b,o+j*2,none⟩) (HPA.out (by omega) b o rfl) g1
     have h2:=HK1.out.cell (a:=⟨b,o+(j*2+1),none⟩) (HPA.out (by omega) b o rfl) g2
     rw[←Nat.add_assoc] at h2
     have HX:=Lib.hid ((L_row (xs:=xs) (j:=j)).trans hx)
     have hbl:Below wr.heap.size wr (wr.alloc (.cells #[.string x.1,.string x.2] 27)):=(Below.refl _ wr).alloc (Nat.le_refl _) _
     have hJ2:J (num ((stat++xs).take (20+j))) (wr.alloc (.cells #[.string x.1,.string x.2] 27)):=HJA.out _ wr (wr.alloc (.cells #[.string x.1,.string x.2] 27)) none HJ1.out (grown_none hbl) (fun r e=>by cases e)
     have HK2:=Lib.hid (HK1.out.trans (KeepC.below (p:=p) hbl))
     obtain⟨fn,tmps,assign,body,hy,hRR⟩:=HY.out _ (20+j+1,x) _ hJ2 (by rw[num_len,List.length_take,HLL.out];omega) (small_of hx hF)
     rw[num_step HX.out] at hRR
     have HRR:=Lib.hid hRR
     rw[show((((20+j+1,x):Nat×Fd).1:Nat):Int)=21+(j:Int) by simp;omega] at hy
     simp only at hy
     clear hx hJ2 hRR hbl hcc g1 g2
     gi_wp2
     refine HRR.out.mono ?_
     rintro e W4 (⟨rfl,hJ4,hk4,hz4⟩ | ⟨rfl,hJx4⟩)
     ·have HK4:=Lib.hid (HK2.out.trans hk4)
      have HZ4:=Lib.hid (show W.heap.size≤W4.heap.size by rw[World.size_alloc] at hz4;omega)
      have HJ4:=Lib.hid hJ4
      clear hk4 hz4 hJ4
      gi_wp2
      go_roundw
      case rel=>exact⟨j+1,by omega,by go_num,HK4.out,HZ4.out,HJ4.out⟩
      case measure=>simp[intOf];omega
     ·have HJX:=Lib.hid hJx4
      clear hJx4
      gi_wp2
      refine bodyPost_ret (results_none rfl _ _ _) rfl ?_
      exact⟨⟨_,rfl⟩,.inr ⟨_,trivial,HJX.out⟩⟩
    ·obtain rfl:j=n:=by omega
     gi_wp2
     go_end0
     have h:=HJ1.out
     rw[List.take_of_length_le (by rw[HLL.out];exact Nat.le_refl _)] at h
     exact⟨⟨_,rfl⟩,.inl ⟨_,rfl,h⟩⟩
end Go.Proofs.YtahiajeggbpogaaGreatDoor
namespace Go.Proofs.YtahiajeggbpogaaGreatDoor
open Go.RowKit Tb Go.Shelf Go.ChangeMaps
set_option linter.unusedVariables false
set_option linter.unusedSimpArgs false
theorem law_out:laidOutB Tryz.prog=true:=by kernel_rfl
theorem fld_keyed:Maps.Keyed Tryz.prog 27:=
 Maps.Keyed.of_law (Go.deep_law_laid law_out (m:=2) (by omega) (of_decide_eq_true (by kernel_rfl)) (by kernel_rfl) (by rw[Tryz.underlying27]))
theorem fld_key(x:Fd)(hx:small x) : ∃q,keyOf Tryz.prog 27 (fdv x)=some q:=by
 obtain⟨a,b⟩:=x
 have hk:Tryz.prog.keyType 27=true:=by kernel_rfl
 have hc:Tryz.prog.cellsOf 27=2:=by kernel_rfl
 have hc3:Tryz.prog.cellsOf 9=1:=by kernel_rfl
 have h0:0<Tryz.prog.types.size:=of_decide_eq_true (by kernel_rfl)
 have hz : ∃m,Tryz.prog.types.size=m+1:=⟨Tryz.prog.types.size-1,by omega⟩
 obtain⟨m,hm⟩:=hz
 have hf:(Value.agg #[.string a,.string b]).formed Tryz.prog 27=true:=by simp[Value.formed,Tryz.underlying27,hc]
 have h1 : ∀x:ByteArray,x.size≤maxLen→Tryz.prog.keyLits (m+1) 9 [.string x]=some [.string x.data.toList]:=fun x hx=>by
  unfold Program.keyLits
  rw[Tryz.underlying9]
  simp only[if_pos hx]
 have hl:Tryz.prog.keyLits (Tryz.prog.types.size+1) 27 [.string a,.string b]=some [.string a.data.toList,.string b.data.toList]:=by
  rw[hm]
  unfold Program.keyLits
  rw[Tryz.underlying27]
  simp only[List.length_cons,List.length_nil,Nat.reduceAdd,hc,hc3,List.mapM_cons,List.mapM_nil,List.drop_zero,List.take_succ_cons,List.take_zero,List.drop_succ_cons,h1 a hx.1,h1 b hx.2]
  rw[if_pos ⟨trivial,by kernel_rfl⟩]
  rfl
 unfold keyOf
 rw[Tryz.underlying27]
 unfold fdv
 simp only[hk,hf,Bool.and_self,if_true]
 refine⟨.string (keyBytes [.string a.data.toList,.string b.data.toList]),?_⟩
 have e:(Value.agg #[.string a,.string b]).cells.toList=[.string a,.string b]:=rfl
 rw[e,hl]
 rfl
namespace Tb
open Classical in
noncomputable def esStep(name:ByteArray)(es:List (Value×Value))(z:Nat×Fd):List (Value×Value):=
 if z.2.1=name∧∀q∈es,q.1≠fdv z.2 then es++[(fdv z.2,.int .i64 (z.1:Int))] else es
noncomputable def esOf(name:ByteArray)(pre:List (Nat×Fd)):List (Value×Value):=pre.foldl (esStep name) []
def leStep(name:ByteArray)(m:Nat)(z:Nat×Fd):Nat:=if z.2.1=name∧m=0 then z.1 else m
def leOf(name:ByteArray)(pre:List (Nat×Fd)):Nat:=pre.foldl (leStep name) 0
theorem esOf_snoc(name:ByteArray)(pre:List (Nat×Fd))(z:Nat×Fd):esOf name (pre++[z])=esStep name (esOf name pre) z:=by simp[esOf]
theorem leOf_snoc(name:ByteArray)(pre:List (Nat×Fd))(z:Nat×Fd):leOf name (pre++[z])=leStep name (leOf name pre) z:=by simp[leOf]
theorem fdv_inj{x y:Fd}(h:fdv x=fdv y):x=y:=by
 obtain⟨a,b⟩:=x
 obtain⟨c,d⟩:=y
 unfold fdv at h
 simp only[Value.agg.injEq,Array.mk.injEq,List.cons.injEq,Value.string.injEq,and_true] at h
 rw[h.1,h.2]
theorem snocInd{α:Type}{P:List α→Prop}(h0:P [])(h1 : ∀l x,P l→P (l++[x]))(l:List α):P l:=by
 have h : ∀r:List α,P r.reverse:=fun r=>by
  induction r with
  | nil=>exact h0
  | cons x r ih=>rw[List.reverse_cons];exact h1 _ _ ih
 have:=h l.reverse
 rwa [List.reverse_reverse] at this
theorem leOf_num(f:Fd)(l:List Fd):leOf f.1 (num l)=ixOf (isN f) l:=by
 refine snocInd (P:=fun l=>leOf f.1 (num l)=ixOf (isN f) l) rfl (fun l x ih=>?_) l
 rw[num_snoc,leOf_snoc,ih,ixOf_snoc]
 unfold leStep
 by_cases h0:ixOf (isN f) l=0
 ·rw[if_pos h0]
  by_cases hx:x.1=f.1
  ·rw[if_pos ⟨hx,h0⟩,if_pos (show isN f x=true from decide_eq_true hx)]
  ·rw[if_neg (fun h=>hx h.1),h0,if_neg (by simp[isN,hx])]
 ·rw[if_neg h0,if_neg (fun h=>h0 h.2)]
theorem ixOf_in{l:List Fd}{x:Fd}(h:x∈l):ixOf (isF x) l≠0:=fun h0=>by
 have:=ixOf_zero.1 h0 x h
 simp[isF] at this
theorem ixOf_out{l:List Fd}{x:Fd}(h:x∉l):ixOf (isF x) l=0:=ixOf_zero.2 fun y hy=>by
 simp only[isF,decide_eq_false_iff_not]
 intro e
 exact h (e ▸ hy)
theorem esOf_num(name:ByteArray)(l:List Fd):(∀q∈esOf name (num l),∃x∈l,q=(fdv x,.int .i64 (ixOf (isF x) l:Int))∧x.1=name)∧(∀x∈l,x.1=name→(fdv x,.int .i64 (ixOf (isF x) l:Int))∈esOf name (num l)):=by
 refine snocInd (P:=fun l=>(∀q∈esOf name (num l),∃x∈l,q=(fdv x,.int .i64 (ixOf (isF x) l:Int))∧x.1=name)∧(∀x∈l,x.1=name→(fdv x,.int .i64 (ixOf (isF x) l:Int))∈esOf name (num l))) ⟨fun q h=>(by cases h),fun q h=>(by cases h)⟩ (fun l y ih=>?_) l
 obtain⟨h1,h2⟩:=ih
 have keep : ∀x∈l,ixOf (isF x) (l++[y])=ixOf (isF x) l:=fun x hx=>by rw[ixOf_snoc,if_neg (ixOf_in hx)]
 rw[num_snoc,esOf_snoc]
 unfold esStep
 simp only
 by_cases hn:y.1=name∧∀q∈esOf name (num l),q.1≠fdv y
 ·rw[if_pos hn]
  have hy:y∉l:=fun hy=>hn.2 _ (h2 y hy hn.1) rfl
  have ey:ixOf (isF y) (l++[y])=l.length+1:=by rw[ixOf_snoc,if_pos (ixOf_out hy),if_pos (by simp[isF])]
  refine⟨fun q hq=>?_,fun x hx hxn=>?_⟩
  ·rcases List.mem_append.1 hq with hq | hq
   ·obtain⟨x,hx,e,hxn⟩:=h1 q hq
    exact⟨x,List.mem_append_left _ hx,by rw[keep x hx];exact e,hxn⟩
   ·rw[List.mem_singleton.1 hq]
    exact⟨y,by simp,by rw[ey],hn.1⟩
  ·rcases List.mem_append.1 hx with hx | hx
   ·rw[keep x hx]
    exact List.mem_append_left _ (h2 x hx hxn)
   ·rw[List.mem_singleton.1 hx,ey]
    exact List.mem_append_right _ (by simp)
 ·rw[if_neg hn]
  refine⟨fun q hq=>?_,fun x hx hxn=>?_⟩
  ·obtain⟨x,hx,e,hxn⟩:=h1 q hq
   exact⟨x,List.mem_append_left _ hx,by rw[keep x hx];exact e,hxn⟩
  ·rcases List.mem_append.1 hx with hx | hx
   ·rw[keep x hx]
    exact h2 x hx hxn
   ·obtain rfl:=List.mem_singleton.1 hx
    by_cases hy:x∈l
    ·rw[keep x hy]
     exact h2 x hy hxn
    ·refine absurd ⟨hxn,fun q hq e=>?_⟩ hn
     obtain⟨z,hz,e2,_⟩:=h1 q hq
     rw[e2] at e
     exact hy (fdv_inj e ▸ hz)
end Tb
end Go.Proofs.YtahiajeggbpogaaGreatDoor
namespace Go.Proofs.YtahiajeggbpogaaGreatDoor
open Go.RowKit Tb Go.Shelf Go.ChangeMaps
set_option linter.unusedVariables false
set_option linter.unusedSimpArgs false
attribute [local go_sem] Oper.semAt_some
def Tb.KeepM(p:Nat→Prop)(W W':World):Prop:=KeepC p W W'∧W.heap.size≤W'.heap.size
theorem Tb.KeepM.trans{p:Nat→Prop}{A B C:World}(h:KeepM p A B)(k:KeepM p B C):KeepM p A C:=⟨h.1.trans k.1,Nat.le_trans h.2 k.2⟩
theorem Tb.res_two{P:Program}{fn:Func}{p q:Tmp}{ty tz:TypeId}(h:fn.results=#[.cell p ty,.cell q tz])(tmps:Array Value)(w:World)(g k:Nat)(t s:TypeId)(u v:Value)(d d':TypeDesc)
  (hp:tmps.getD p undef = .pointer (some ⟨g,0,none⟩)) (hg:w.heap[g]? = some (.cells #[u] t)) (hq:tmps.getD q undef = .pointer (some ⟨k,0,none⟩)) (hk:w.heap[k]? = some (.cells #[v] s))
  (hu:P.underlying ty=some d) (hd:(match d with | .struct _ | .array _ _=>true | _=>false)=false) (hu':P.underlying tz=some d') (hd':(match d' with | .struct _ | .array _ _=>true | _=>false)=false) :
  (results fn tmps).run P w = .ok (.tuple #[u,v]) w:=by
 have hp':tmps[p]?.getD undef = .pointer (some ⟨g,0,none⟩):=by simpa using hp
 have hq':tmps[q]?.getD undef = .pointer (some ⟨k,0,none⟩):=by simpa using hq
 simp[results,h,hp',hq',asAddr,run_get w g 0 ty t #[u] u d hg rfl hu hd,run_get w k 0 tz s #[v] v d' hk rfl hu' hd']
theorem t_fields(v:Value)(a b:Value)(w:World)(hv:v = .agg #[a,b]):Calls Tryz.prog 149 #[v] w fun e w'=>
   e = .returned (.func (.func 157) #[] #[.pointer (some ⟨w.heap.size,0,none⟩)])∧w.alloc (.cells #[a,b] 24)=w':=by
 subst hv
 go_enter Tryz.func149,Tryz.ntmps149
 go_wp2
 go_ret
 exact⟨rfl,rfl⟩
theorem fields_stops(k:Nat)(hk:1≤k)(B1 n c:Nat)(M:Int)(A:Option Addr)(xs:List Fd)(p:Nat→Prop)(w:World)(hR:Stv w)(hB:B1<w.heap.size)
  (hp0:p 5) (hp1:p B1) (hpA:0<n→∀b o,A=some ⟨b,o,none⟩→p b) (hn:n≤1000000) (hF:full xs≤1000000)
  (hc0:w.cell? ⟨B1,0,none⟩=some (.int .i64 M)) (hc1:w.cell? ⟨B1,1,none⟩=some (.slice A n c)) (hA:Fs w w.heap.size A n xs) :
  SeqS Fence.wide k Tryz.prog 157 #[.pointer (some ⟨B1,0,none⟩)] (fun x:Nat×Fd=>#[.int .i64 (x.1:Int),.agg #[.string x.2.1,.string x.2.2]]) (KeepM p) (fun _ _=>False) (fun _ x _=>small x.2) (fun ys=>ys=num (stat++xs)) (20+n) w:=fun l J W hW hJ _ hY h0=>
 (tfields1_in k hk l B1 n c M A xs p J (fun _ _=>False) W (hR.on hW) hJ hp0 hp1 hpA hn hF (fun pre x W1 hj hl hs=>by
   obtain⟨fn,tmps,assign,body,hy,hr⟩:=hY pre x W1 hj hs hl
   exact⟨fn,tmps,assign,body,hy,hr.mono fun e W' h=>.inl ⟨h.1,h.2.1,h.2.2.1,h.2.2.2⟩⟩)
  ((hW.cell (p:=⟨B1,0,none⟩) hB).trans hc0) ((hW.cell (p:=⟨B1,1,none⟩) hB).trans hc1) (hA.on hW) h0).mono fun e W' h=>⟨h.1,by
   rcases h.2 with h2 | ⟨_,_,h2⟩
   ·exact h2
   ·exact h2.elim⟩
structure NamedI (w:World) (B:Nat) (name:ByteArray) (pre:List (Nat×Fd)) (W:World):Prop where
 r1:W.heap[w.heap.size+1]? = some (.cells #[.string name] 9)
 r2:W.heap[w.heap.size+1+1]? = some (.cells #[.map (some (w.heap.size+1+1+1+1))] 153)
 r3:W.heap[w.heap.size+1+1+1]? = some (.cells #[.int .i64 (leOf name pre:Int)] 3)
 mp:MapL W Tryz.prog 27 (w.heap.size+1+1+1+1) (esOf name pre)
 below:Below w.heap.size w W
 size:B≤W.heap.size
theorem namedI_own{w:World}{B:Nat}{name:ByteArray}(hB:w.heap.size+1+1+1+1+1≤B):OwnFrom B (NamedI w B name):=by
 intro s W W' row hs hg hr
 have hk : ∀k,k<B→k<W.heap.size→W'.heap[k]? = W.heap[k]?:=fun k h1 h2=>hg.block k h2 (fun e=>by have:=(hr k e.symm).1;omega)
 have hl:=hs.size
 exact⟨(hk _ (by omega) (by omega)).trans hs.r1,(hk _ (by omega) (by omega)).trans hs.r2,(hk _ (by omega) (by omega)).trans hs.r3,hs.mp.same (hk _ (by omega) (by omega)),hs.below.grown hg hs.below.size (fun k e=>by have:=(hr k e).1;omega),Nat.le_trans hs.size hg.size⟩
def AtN(f:Nat→Act)(z:Nat×Fd)(a:Act)(W:World):Prop:=small z.2∧∃b,a=f b∧W.cell? ⟨b,0,none⟩=some (.string z.2.1)∧W.cell? ⟨b,1,none⟩=some (.string z.2.2)
theorem atN_own(B:Nat)(f:Nat→Act)(z:Nat×Fd)(a:Act):OwnFrom B (fun(_:Unit) W=>AtN f z a W):=by
 intro s W W' row hs hg hr
 have hr' : ∀k,row=some k→∃o:Obj,W.heap[k]? = some o∧o.isCells=false:=fun k e=>(hr k e).2
 obtain⟨h0,b,e,h1,h2⟩:=hs
 exact⟨h0,b,e,cell_kept h1 hg hr',cell_kept h2 hg hr'⟩
theorem named_round{w W W':World}{B R:Nat}{name:ByteArray}{pre:List (Nat×Fd)}{z:Nat×Fd}{a:Act}(hI:NamedI w B name pre W)(hB:w.heap.size+1+1+1+1+1<B)(hR:w.heap.size+1+1+1+1+1<R)(hz:W.heap.size≤W'.heap.size)
  (hk : ∀k,k<W.heap.size→k≠w.heap.size+1+1+1→k≠w.heap.size+1+1+1+1→W'.heap[k]? = W.heap[k]?) (h3:W'.heap[w.heap.size+1+1+1]? = some (.cells #[.int .i64 (leOf name (pre++[z]):Int)] 3)) (hm:MapL W' Tryz.prog 27 (w.heap.size+1+1+1+1) (esOf name (pre++[z]))) (hb:Below w.heap.size w W') :
  ownPostG R (KeepM (fun j=>j<w.heap.size∨j=w.heap.size+1+1+1+1+1)) (NamedI w B name) (fun _ _ _=>False) (pre++[z]) W Exit.normal a W':=by
 have hs:=hI.size
 refine⟨⟨hz,fun k o hRk ho _=>?_⟩,⟨fun j o hj ho _=>?_,hz⟩,⟨(hk _ (by omega) (by omega) (by omega)).trans hI.r1,(hk _ (by omega) (by omega) (by omega)).trans hI.r2,h3,hm,hb,by omega⟩⟩
 ·exact(hk k (Array.getElem?_eq_some_iff.1 ho).1 (by omega) (by omega)).trans ho
 ·exact(hk j (Array.getElem?_eq_some_iff.1 ho).1 (by omega) (by omega)).trans ho
theorem t_named(M:Int)(A:Option Addr)(n c:Nat)(xs:List Fd)(name:ByteArray)(w:World)(hR:Stv w)(hA:Fs w w.heap.size A n xs)(hn:n≤1000000)(hF:full xs≤1000000) :
  Calls Tryz.prog 135 #[.agg #[.int .i64 M,.slice A n c],.string name] w fun e w'=>∃b,e = .returned (.tuple #[.map (some b),.int .i64 (leOf name (num (stat++xs)):Int)])∧MapL w' Tryz.prog 27 b (esOf name (num (stat++xs)))∧Below w.heap.size w w':=by
 have HA:=Lib.hid hA
 have HR:=Lib.hid hR
 clear hA hR
 refine(callsIn_wide (n:=6)).1 (callsIn_of_wp_marks Tryz.func135 rfl trivial ?_ rfl)
 refine wpIn_wide.2 ?_
 simp only[Tryz.ntmps135,List.size_toArray,List.length_cons,List.length_nil,Nat.reduceAdd,Nat.reduceSub,Array.replicate_succ,Array.replicate_zero,List.push_toArray,List.append_toArray,List.nil_append,List.cons_append]
 have hmk : ∀W:World,(Instr.makeMap 153 none).run Tryz.prog W = .ok (.map (some W.heap.size)) (W.alloc (.map #[] 0)):=fun W=>by rfl
 go_wp2_with (go_at_call 149;(with_reducible refine(t_fields _ _ _ _ rfl).mono ?_);rintro e w3 ⟨rfl,rfl⟩)
 obtain⟨WQ,hWQ⟩ : ∃WQ,(((((w.alloc (.cells #[.int .i64 M,.slice A n c] 24)).alloc (.cells #[.string name] 9)).alloc (.cells #[.map (some (w.heap.size+1+1+1+1))] 153)).alloc (.cells #[.int .i64 0] 3)).alloc (.map #[] 0))=WQ:=⟨_,rfl⟩
 have K0:Hid (EnvF ((((((w.alloc (.cells #[.int .i64 M,.slice A n c] 24)).alloc (.cells #[.string name] 9)).alloc (.cells #[.map (some (w.heap.size+1+1+1+1))] 153)).alloc (.cells #[.int .i64 0] 3)).alloc (.map #[] 0)).alloc (.cells #[.int .i64 M,.slice A n c] 24)) [fF A n xs,stF] [(w.heap.size+1+1+1+1+1,#[.int .i64 M,.slice A n c],24),(w.heap.size+1+1+1,#[.int .i64 0],3),(w.heap.size+1+1,#[.map (some (w.heap.size+1+1+1+1))],153),(w.heap.size+1,#[.string name],9),(w.heap.size,#[.int .i64 M,.slice A n c],24)]):=
  Lib.hid (((((((envS w HR.out).addF HA.out).boxg 24 #[.int .i64 M,.slice A n c] (w.heap.size) (by simp)).boxg 9 #[.string name] (w.heap.size+1) (by simp)).boxg 153 #[.map (some (w.heap.size+1+1+1+1))] (w.heap.size+1+1) (by simp)).boxg 3 #[.int .i64 0] (w.heap.size+1+1+1) (by simp)).al (.map #[] 0) |>.boxg 24 #[.int .i64 M,.slice A n c] (w.heap.size+1+1+1+1+1) (by simp))
 have B0:Hid (Below w.heap.size w ((((((w.alloc (.cells #[.int .i64 M,.slice A n c] 24)).alloc (.cells #[.string name] 9)).alloc (.cells #[.map (some (w.heap.size+1+1+1+1))] 153)).alloc (.cells #[.int .i64 0] 3)).alloc (.map #[] 0)).alloc (.cells #[.int .i64 M,.slice A n c] 24))):=Lib.hid (((((((Below.refl _ w).alloc (Nat.le_refl _) (.cells #[.int .i64 M,.slice A n c] 24)).alloc (by simp) (.cells #[.string name] 9)).alloc (by simp only[World.size_alloc];omega) (.cells #[.map (some (w.heap.size+1+1+1+1))] 153)).alloc (by simp only[World.size_alloc];omega) (.cells #[.int .i64 0] 3)).alloc (by simp only[World.size_alloc];omega) (.map #[] 0)).alloc (by simp only[World.size_alloc];omega) (.cells #[.int .i64 M,.slice A n c] 24))
 have M0:Hid (MapL ((((((w.alloc (.cells #[.int .i64 M,.slice A n c] 24)).alloc (.cells #[.string name] 9)).alloc (.cells #[.map (some (w.heap.size+1+1+1+1))] 153)).alloc (.cells #[.int .i64 0] 3)).alloc (.map #[] 0)).alloc (.cells #[.int .i64 M,.slice A n c] 24)) Tryz.prog 27 (w.heap.size+1+1+1+1) []):=Lib.hid (by
  have h:=MapL.made ((((w.alloc (.cells #[.int .i64 M,.slice A n c] 24)).alloc (.cells #[.string name] 9)).alloc (.cells #[.map (some (w.heap.size+1+1+1+1))] 153)).alloc (.cells #[.int .i64 0] 3)) Tryz.prog 27
  simp only[World.size_alloc] at h
  exact h.below ((Below.refl _ _).alloc (Nat.le_refl _) _))
 have Z0:Hid (((((((w.alloc (.cells #[.int .i64 M,.slice A n c] 24)).alloc (.cells #[.string name] 9)).alloc (.cells #[.map (some (w.heap.size+1+1+1+1))] 153)).alloc (.cells #[.int .i64 0] 3)).alloc (.map #[] 0)).alloc (.cells #[.int .i64 M,.slice A n c] 24)).heap.size=w.heap.size+1+1+1+1+1+1):=Lib.hid (by simp)
 clear hWQ hmk
 generalize ((((((w.alloc (.cells #[.int .i64 M,.slice A n c] 24)).alloc (.cells #[.string name] 9)).alloc (.cells #[.map (some (w.heap.size+1+1+1+1))] 153)).alloc (.cells #[.int .i64 0] 3)).alloc (.map #[] 0)).alloc (.cells #[.int .i64 M,.slice A n c] 24))=Ws at *
 have hz:=Z0.out
 have hr5:=cells2_row (K0.out.row 0 rfl)
 have hpA:0<n→∀b o,A=some ⟨b,o,none⟩→b<w.heap.size∨b=w.heap.size+1+1+1+1+1:=fun h0 b o e=>by
  obtain⟨b',o',e',hb',_⟩:=HA.out.2 h0
  rw[e] at e'
  cases e'
  exact .inl hb'
 have HI0:NamedI w Ws.heap.size name [] Ws:=⟨K0.out.row 3 rfl,K0.out.row 2 rfl,K0.out.row 1 rfl,M0.out,B0.out,Nat.le_refl _⟩
 have hR0:=Tb.EnvF.stv K0.out (by simp)
 have hA0:=K0.out.fs (A:=A) (n:=n) (xs:=xs) (by simp)
 refine(wpIn_wide (n:=6)).1 ?_
 refine wpIn_rangeFunc_state rfl (by omega) (gf:=157) (lb:=#[.pointer (some ⟨w.heap.size+1+1+1+1+1,0,none⟩)]) rfl trivial (enters_of Tryz.func157 (by kernel_rfl) rfl)
  (fields_stops 5 (by omega) (w.heap.size+1+1+1+1+1) n c M A xs (fun j=>j<w.heap.size∨j=w.heap.size+1+1+1+1+1) Ws hR0 (by omega) (.inl HR.out.lt) (.inr rfl) hpA hn hF hr5.1 hr5.2 hA0)
  (fun h k=>h.trans k) (fun W l o o' hl h hc hw=>⟨KeepC.put W l o o' h hc,(grownBy_putObj' W l o').size⟩) (fun _=>rfl) (fun _ _ _ _ h=>h.elim)
  (NamedI w Ws.heap.size name) (namedI_own (by omega)) (fun _ _ _ _ h=>h.elim) HI0
  (fun _ z=>AtN (fun b=>{ tmps:=#[.agg #[.int .i64 M,.slice A n c],.string name,.pointer (some ⟨w.heap.size,0,none⟩),.pointer (some ⟨w.heap.size+1,0,none⟩),.pointer (some ⟨w.heap.size+1+1,0,none⟩),.pointer (some ⟨w.heap.size+1+1+1,0,none⟩),.int .i64 (z.1:Int),.pointer (some ⟨b,0,none⟩),undef,undef,.map (some (w.heap.size+1+1+1+1)),.agg #[.int .i64 M,.slice A n c],.func (.func 157) #[] #[.pointer (some ⟨w.heap.size+1+1+1+1+1,0,none⟩)],.int .i64 (z.1:Int),.agg #[.string z.2.1,.string z.2.2],undef,undef,undef,undef,undef,undef,undef,undef,undef,undef,undef,undef,undef,undef,undef,undef,undef,undef,undef,undef],defers:=[] }) z)
  (fun _ z a'=>atN_own _ _ z a')
  ?assign ?body ?done
 case assign=>
  intro l pre z W K hI hV hK
  have HK:=Lib.hid hK
  have HI:=Lib.hid hI
  have HV:=Lib.hid hV
  clear hK hI hV
  gi_wp2
  refine HK.out _ _ ?_ ?_ ?_ ⟨HV.out,W.heap.size,rfl,?_,?_⟩
  ·exact(KeepsOthers.alloc _ _).from _
  ·exact⟨KeepC.below ((Below.refl _ W).alloc (Nat.le_refl _) _),by simp⟩
  ·exact(namedI_own (B:=Ws.heap.size) (by omega)).alloc _ HI.out
  ·simp[go_sem]
  ·simp[go_sem]
 case body=>
  rintro l pre ⟨i,za,zb⟩ a' W _ hI ⟨hsm,b,rfl,k1,k2⟩ hlen
  simp only at k1 k2 hsm ⊢
  have HI:=Lib.hid hI
  have c1:=cells1_row hI.r1
  have c2:=cells1_row hI.r2
  have c3:=cells1_row hI.r3
  have z3:=frozen_of_row _ _ 0 _ _ hI.r3
  have hsW:=hI.size
  have hzz:w.heap.size+1+1+1+1+1<Ws.heap.size:=by omega
  have hb3:b≠w.heap.size+1+1+1:=fun e=>by
   subst e
   rw[c3] at k1
   cases k1
  clear hI HI0 hR0 hA0 hpA hr5 hz
  by_cases hn:za=name
  ·obtain rfl:=hn.symm
   clear hn
   obtain⟨q,hkey⟩:=fld_key (name,zb) hsm
   by_cases m0:leOf name pre=0
   ·rw[m0] at c3
    simp only[Int.natCast_zero] at c3
    by_cases hin : ∀q∈esOf name pre,q.1≠fdv (name,zb)
    ·have HIN:=Lib.hid hin
     have hoth : ∀k,k≠w.heap.size+1+1+1→(W.setCell ⟨w.heap.size+1+1+1,0,none⟩ (.int .i64 (i:Int))).heap[k]? = W.heap[k]?:=fun k hk=>Below.heap_setCell _ _ _ _ (by simpa using hk)
     have mp1:MapL (W.setCell ⟨w.heap.size+1+1+1,0,none⟩ (.int .i64 (i:Int))) Tryz.prog 27 (w.heap.size+1+1+1+1) (esOf name pre):=HI.out.mp.same (hoth _ (by omega))
     have hr3:(W.setCell ⟨w.heap.size+1+1+1,0,none⟩ (.int .i64 (i:Int))).heap[w.heap.size+1+1+1]? = some (.cells #[.int .i64 (i:Int)] 3):=(Go.heap_setCell_same W _ 0 _ _ _ HI.out.r3).trans rfl
     have d2:(W.setCell ⟨w.heap.size+1+1+1,0,none⟩ (.int .i64 (i:Int))).cell? ⟨w.heap.size+1+1,0,none⟩=some (.map (some (w.heap.size+1+1+1+1))):=(World.cell?_of_block (a:=⟨w.heap.size+1+1,0,none⟩) (hoth (w.heap.size+1+1) (by omega))).trans c2
     have d4:(W.setCell ⟨w.heap.size+1+1+1,0,none⟩ (.int .i64 (i:Int))).cell? ⟨b,0,none⟩=some (.string name):=(World.cell?_of_block (a:=⟨b,0,none⟩) (hoth _ hb3)).trans k1
     have d5:(W.setCell ⟨w.heap.size+1+1+1,0,none⟩ (.int .i64 (i:Int))).cell? ⟨b,1,none⟩=some (.string zb):=(World.cell?_of_block (a:=⟨b,1,none⟩) (hoth _ hb3)).trans k2
     have hbl1:Below w.heap.size w (W.setCell ⟨w.heap.size+1+1+1,0,none⟩ (.int .i64 (i:Int))):=HI.out.below.setCell (p:=⟨w.heap.size+1+1+1,0,none⟩) (by simp only;omega) _
     have hsz1:(W.setCell ⟨w.heap.size+1+1+1,0,none⟩ (.int .i64 (i:Int))).heap.size=W.heap.size:=by simp
     have hl:=mp1.look_no fld_keyed Tryz.underlying153 (z:=.int .i64 0) (e:=3) rfl hkey hin
     obtain⟨w',hrun,hm2,hg2⟩:=mp1.update fld_keyed Tryz.underlying153 hkey hin (.int .i64 (i:Int))
     unfold fdv at hl hrun
     have HX:=Lib.hid (And.intro hr3 (And.intro hbl1 (And.intro hsz1 (And.intro hm2 hg2))))
     have HO:=Lib.hid hoth
     clear hr3 hbl1 hsz1 hm2 hg2 hoth mp1 hin
     gi_wp2
     obtain⟨hr3,hbl1,hsz1,hm2,hg2⟩:=HX.out
     have hk2 : ∀k,k<W.heap.size→k≠w.heap.size+1+1+1→k≠w.heap.size+1+1+1+1→w'.heap[k]? = W.heap[k]?:=fun k h1 h2 h3=>(hg2.block k (by omega) (fun e=>h3 (Option.some.inj e))).trans (HO.out k h2)
     exact named_round HI.out (by omega) (by omega) (by have:=hg2.size;omega) hk2 (by rw[leOf_snoc];unfold leStep;rw[if_pos ⟨rfl,m0⟩];exact(hg2.block _ (by omega) (fun e=>by have:=Option.some.inj e;omega)).trans hr3) (by rw[esOf_snoc];unfold esStep;rw[if_pos ⟨rfl,HIN.out⟩];exact hm2) (hbl1.grown hg2 hbl1.size (fun k e=>by have:=Option.some.inj e;omega))
    ·have HIN:=Lib.hid hin
     obtain⟨⟨kk,vv⟩,hin,ek⟩ : ∃q,q∈esOf name pre∧q.1=fdv (name,zb):=Classical.byContradiction fun h=>hin fun q hq e=>h ⟨q,hq,e⟩
     obtain rfl:kk=fdv (name,zb):=ek
     have hoth : ∀k,k≠w.heap.size+1+1+1→(W.setCell ⟨w.heap.size+1+1+1,0,none⟩ (.int .i64 (i:Int))).heap[k]? = W.heap[k]?:=fun k hk=>Below.heap_setCell _ _ _ _ (by simpa using hk)
     have mp1:MapL (W.setCell ⟨w.heap.size+1+1+1,0,none⟩ (.int .i64 (i:Int))) Tryz.prog 27 (w.heap.size+1+1+1+1) (esOf name pre):=HI.out.mp.same (hoth _ (by omega))
     have hr3:(W.setCell ⟨w.heap.size+1+1+1,0,none⟩ (.int .i64 (i:Int))).heap[w.heap.size+1+1+1]? = some (.cells #[.int .i64 (i:Int)] 3):=(Go.heap_setCell_same W _ 0 _ _ _ HI.out.r3).trans rfl
     have d2:(W.setCell ⟨w.heap.size+1+1+1,0,none⟩ (.int .i64 (i:Int))).cell? ⟨w.heap.size+1+1,0,none⟩=some (.map (some (w.heap.size+1+1+1+1))):=(World.cell?_of_block (a:=⟨w.heap.size+1+1,0,none⟩) (hoth (w.heap.size+1+1) (by omega))).trans c2
     have d4:(W.setCell ⟨w.heap.size+1+1+1,0,none⟩ (.int .i64 (i:Int))).cell? ⟨b,0,none⟩=some (.string name):=(World.cell?_of_block (a:=⟨b,0,none⟩) (hoth _ hb3)).trans k1
     have d5:(W.setCell ⟨w.heap.size+1+1+1,0,none⟩ (.int .i64 (i:Int))).cell? ⟨b,1,none⟩=some (.string zb):=(World.cell?_of_block (a:=⟨b,1,none⟩) (hoth _ hb3)).trans k2
     have hbl1:Below w.heap.size w (W.setCell ⟨w.heap.size+1+1+1,0,none⟩ (.int .i64 (i:Int))):=HI.out.below.setCell (p:=⟨w.heap.size+1+1+1,0,none⟩) (by simp only;omega) _
     have hsz1:(W.setCell ⟨w.heap.size+1+1+1,0,none⟩ (.int .i64 (i:Int))).heap.size=W.heap.size:=by simp
     have hl:=mp1.look_yes fld_keyed Tryz.underlying153 hkey hin
     unfold fdv at hl
     have HX:=Lib.hid (And.intro hr3 (And.intro hbl1 (And.intro hsz1 mp1)))
     have HO:=Lib.hid hoth
     clear hr3 hbl1 hsz1 hoth mp1 hin
     gi_wp2
     obtain⟨hr3,hbl1,hsz1,hm2⟩:=HX.out
     exact named_round HI.out (by omega) (by omega) (by omega) (fun k h1 h2 h3=>HO.out k h2) (by rw[leOf_snoc];unfold leStep;rw[if_pos ⟨rfl,m0⟩];exact hr3) (by rw[esOf_snoc];unfold esStep;rw[if_neg (show ¬((i,name,zb).2.1=name∧∀q∈esOf name pre,q.1≠fdv (i,name,zb).2) from fun h=>HIN.out h.2)];exact hm2) hbl1
   ·have m1:((leOf name pre:Int)==0)=false:=by simp;omega
    by_cases hin : ∀q∈esOf name pre,q.1≠fdv (name,zb)
    ·have HIN:=Lib.hid hin
     have hoth:True:=trivial
     have mp1:MapL W Tryz.prog 27 (w.heap.size+1+1+1+1) (esOf name pre):=HI.out.mp
     have hr3:=HI.out.r3
     have hbl1:Below w.heap.size w W:=HI.out.below
     have hsz1:W.heap.size=W.heap.size:=rfl
     have hl:=mp1.look_no fld_keyed Tryz.underlying153 (z:=.int .i64 0) (e:=3) rfl hkey hin
     obtain⟨w',hrun,hm2,hg2⟩:=mp1.update fld_keyed Tryz.underlying153 hkey hin (.int .i64 (i:Int))
     unfold fdv at hl hrun
     have HX:=Lib.hid (And.intro hr3 (And.intro hbl1 (And.intro hsz1 (And.intro hm2 hg2))))
     have HO:=Lib.hid hoth
     clear hr3 hbl1 hsz1 hm2 hg2 hoth mp1 hin
     gi_wp2
     obtain⟨hr3,hbl1,hsz1,hm2,hg2⟩:=HX.out
     have hk2 : ∀k,k<W.heap.size→k≠w.heap.size+1+1+1→k≠w.heap.size+1+1+1+1→w'.heap[k]? = W.heap[k]?:=fun k h1 h2 h3=>(hg2.block k (by omega) (fun e=>h3 (Option.some.inj e))).trans rfl
     exact named_round HI.out (by omega) (by omega) (by have:=hg2.size;omega) hk2 (by rw[leOf_snoc];unfold leStep;rw[if_neg (fun h=>m0 h.2)];exact(hg2.block _ (by omega) (fun e=>by have:=Option.some.inj e;omega)).trans hr3) (by rw[esOf_snoc];unfold esStep;rw[if_pos ⟨rfl,HIN.out⟩];exact hm2) (hbl1.grown hg2 hbl1.size (fun k e=>by have:=Option.some.inj e;omega))
    ·have HIN:=Lib.hid hin
     obtain⟨⟨kk,vv⟩,hin,ek⟩ : ∃q,q∈esOf name pre∧q.1=fdv (name,zb):=Classical.byContradiction fun h=>hin fun q hq e=>h ⟨q,hq,e⟩
     obtain rfl:kk=fdv (name,zb):=ek
     have hoth:True:=trivial
     have mp1:MapL W Tryz.prog 27 (w.heap.size+1+1+1+1) (esOf name pre):=HI.out.mp
     have hr3:=HI.out.r3
     have hbl1:Below w.heap.size w W:=HI.out.below
     have hsz1:W.heap.size=W.heap.size:=rfl
     have hl:=mp1.look_yes fld_keyed Tryz.underlying153 hkey hin
     unfold fdv at hl
     have HX:=Lib.hid (And.intro hr3 (And.intro hbl1 (And.intro hsz1 mp1)))
     have HO:=Lib.hid hoth
     clear hr3 hbl1 hsz1 hoth mp1 hin
     gi_wp2
     obtain⟨hr3,hbl1,hsz1,hm2⟩:=HX.out
     exact named_round HI.out (by omega) (by omega) (by omega) (fun k h1 h2 h3=>rfl) (by rw[leOf_snoc];unfold leStep;rw[if_neg (fun h=>m0 h.2)];exact hr3) (by rw[esOf_snoc];unfold esStep;rw[if_neg (show ¬((i,name,zb).2.1=name∧∀q∈esOf name pre,q.1≠fdv (i,name,zb).2) from fun h=>HIN.out h.2)];exact hm2) hbl1
  ·have n1:(za.toList==name.toList)=false:=by rw[beq_eq_false_iff_ne];exact fun h=>hn (ba_eq h)
   gi_wp2
   exact named_round HI.out (by omega) (by omega) (Nat.le_refl _) (fun _ _ _ _=>rfl) (by rw[leOf_snoc];unfold leStep;rw[if_neg (fun h=>hn h.1)];exact HI.out.r3) (by rw[esOf_snoc];unfold esStep;rw[if_neg (fun h=>hn h.1)];exact HI.out.mp) HI.out.below
 case done=>
  rintro D ys W hD rfl hI hK
  have HI:=Lib.hid hI
  have HK:=Lib.hid hK
  have c2:=cells1_row hI.r2
  have c3:=cells1_row hI.r3
  have z2:=frozen_of_row _ _ 0 _ _ hI.r2
  have z3:=frozen_of_row _ _ 0 _ _ hI.r3
  clear hI hK HI0 hR0 hA0 hpA hr5 hz
  go_wp2
  go_region
  go_wp2
  have hx : ∀k,k≠w.heap.size+1+1→k≠w.heap.size+1+1+1→((W.setCell ⟨w.heap.size+1+1,0,none⟩ (.map (some (w.heap.size+1+1+1+1)))).setCell ⟨w.heap.size+1+1+1,0,none⟩ (.int .i64 (leOf name (num (stat++xs)):Int))).heap[k]? = W.heap[k]?:=fun k h2 h3=>(Below.heap_setCell _ _ _ _ (by simpa using h3)).trans (Below.heap_setCell _ _ _ _ (by simpa using h2))
  have hx2:((W.setCell ⟨w.heap.size+1+1,0,none⟩ (.map (some (w.heap.size+1+1+1+1)))).setCell ⟨w.heap.size+1+1+1,0,none⟩ (.int .i64 (leOf name (num (stat++xs)):Int))).heap[w.heap.size+1+1]? = some (.cells #[.map (some (w.heap.size+1+1+1+1))] 153):=(Below.heap_setCell _ _ _ _ (by simp)).trans ((Go.heap_setCell_same W _ 0 _ _ _ HI.out.r2).trans rfl)
  have hx3:((W.setCell ⟨w.heap.size+1+1,0,none⟩ (.map (some (w.heap.size+1+1+1+1)))).setCell ⟨w.heap.size+1+1+1,0,none⟩ (.int .i64 (leOf name (num (stat++xs)):Int))).heap[w.heap.size+1+1+1]? = some (.cells #[.int .i64 (leOf name (num (stat++xs)):Int)] 3):=(Go.heap_setCell_same _ _ 0 _ _ _ ((Below.heap_setCell _ _ _ _ (by simp)).trans HI.out.r3)).trans rfl
  have hlt:=HI.out.size
  have hz:=Z0.out
  have hKx:((W.setCell ⟨w.heap.size+1+1,0,none⟩ (.map (some (w.heap.size+1+1+1+1)))).setCell ⟨w.heap.size+1+1+1,0,none⟩ (.int .i64 (leOf name (num (stat++xs)):Int))).heap[D]? = some (.deferred (some [])):=(hx D (by omega) (by omega)).trans HK.out
  have hbx:Below w.heap.size w ((W.setCell ⟨w.heap.size+1+1,0,none⟩ (.map (some (w.heap.size+1+1+1+1)))).setCell ⟨w.heap.size+1+1+1,0,none⟩ (.int .i64 (leOf name (num (stat++xs)):Int))).drew:=((HI.out.below.setCell (p:=⟨w.heap.size+1+1,0,none⟩) (by simp only;omega) _).setCell (p:=⟨w.heap.size+1+1+1,0,none⟩) (by simp only;omega) _).drew
  have hmx:=HI.out.mp.same (hx (w.heap.size+1+1+1+1) (by omega) (by omega))
  clear HI HK c2 c3 z2 z3
  generalize ((W.setCell ⟨w.heap.size+1+1,0,none⟩ (.map (some (w.heap.size+1+1+1+1)))).setCell ⟨w.heap.size+1+1+1,0,none⟩ (.int .i64 (leOf name (num (stat++xs)):Int)))=Wx at *
  have hKd:Wx.drew.heap[D]? = some (.deferred (some [])):=hKx
  have hbl:Below w.heap.size w (Wx.drew.putObj D (.deferred none)):=hbx.trans (belowK_b (w:=w) (Nat.le_refl _) Wx.drew D _ _ (by omega) hKd rfl rfl)
  have ho : ∀k,k≠D→(Wx.drew.putObj D (.deferred none)).heap[k]? = Wx.heap[k]?:=fun k hk=>World.putObj_heap_other (by omega)
  exact⟨by simp,.inl ⟨_,_,rfl,run_takeDeferred hKd,⟨_,res_two rfl _ _ _ _ _ _ _ _ _ _ rfl ((ho _ (by omega)).trans hx2) rfl ((ho _ (by omega)).trans hx3) Tryz.underlying153 rfl Tryz.underlying3 rfl,_,rfl,hmx.same (ho _ (by omega)),hbl⟩⟩⟩
end Go.Proofs.YtahiajeggbpogaaGreatDoor
namespace Go.Proofs.YtahiajeggbpogaaGreatDoor
open Go.RowKit Tb Go.ChangeMaps
set_option linter.unusedVariables false
set_option linter.unusedSimpArgs false
theorem t_find(M:Int)(A:Option Addr)(n c:Nat)(xs:List Fd)(f:Fd)(w:World)(hR:Stv w)(hA:Fs w w.heap.size A n xs)(hnm:n≤1000000)(hF:full xs≤1000000)(hf:sz f≤1000000) :
  Calls Tryz.prog 121 #[.agg #[.int .i64 M,.slice A n c],.agg #[.string f.1,.string f.2]] w fun e w'=>e = .returned (.tuple #[.int .i64 (findI xs f:Int),.bool (findB xs f)])∧Below w.heap.size w w':=by
 have hsm:small f:=by unfold sz at hf;unfold small maxLen;omega
 obtain⟨q,hkey⟩:=fld_key f hsm
 obtain⟨h1,h2⟩:=esOf_num f.1 (stat++xs)
 by_cases hmem:f∈(stat++xs)
 ·have hin:=h2 f hmem rfl
  have hne:=ixOf_in hmem
  have e1:findI xs f=ixOf (isF f) (stat++xs):=by unfold findI;rw[if_neg hne]
  have e2:findB xs f=true:=by unfold findB;rw[decide_eq_false hne];rfl
  rw[e1,e2]
  clear h1 h2 hmem hne e1 e2
  have K0:Hid (EnvF ((w.alloc (.cells #[.int .i64 M,.slice A n c] 24)).alloc (.cells #[.string f.1,.string f.2] 27)) [fF A n xs,stF] [(w.heap.size+1,#[.string f.1,.string f.2],27),(w.heap.size,#[.int .i64 M,.slice A n c],24)]):=Lib.hid ((((envS w hR).addF hA).boxg 24 #[.int .i64 M,.slice A n c] (w.heap.size) (by simp)).boxg 27 #[.string f.1,.string f.2] (w.heap.size+1) (by simp))
  have B0:Hid (Below w.heap.size w ((w.alloc (.cells #[.int .i64 M,.slice A n c] 24)).alloc (.cells #[.string f.1,.string f.2] 27))):=Lib.hid (((Below.refl _ w).alloc (by first | exact Nat.le_refl _ | (simp only[World.size_alloc];omega)) (.cells #[.int .i64 M,.slice A n c] 24)).alloc (by first | exact Nat.le_refl _ | (simp only[World.size_alloc];omega)) (.cells #[.string f.1,.string f.2] 27))
  go_enter Tryz.func121,Tryz.ntmps121
  go_wp2_with (first
   | go_skip
   | (refine at_load 24 (.tmp 2) (by rfl) ?_;refine wpList_load_row (by rfl) 24 (.tmp 2) (by rfl) (w.heap.size) (by rfl) 24 #[.int .i64 M,.slice A n c] (0,0) _ (K0.out.row 1 rfl) Tryz.underlying24 (by rfl) infoc_T ?_)
   | (refine at_load 9 (.tmp 12) (by rfl) ?_;refine wpList_get (by rfl) 9 (.tmp 12) (by rfl) (w.heap.size+1) 0 (by rfl) 27 #[.string f.1,.string f.2] (.string f.1) _ (K0.out.row 0 rfl) (by rfl) Tryz.underlying9 (by rfl) ?_)
   | (go_at_call 135;(have hc:=(t_named M A n c xs f.1 ((w.alloc (.cells #[.int .i64 M,.slice A n c] 24)).alloc (.cells #[.string f.1,.string f.2] 27)) (Tb.EnvF.stv K0.out (by simp)) (K0.out.fs (A:=A) (n:=n) (xs:=xs) (by simp)) hnm hF);(with_reducible refine hc.mono ?_);clear hc);rintro e w1 ⟨b1,rfl,hm,hb⟩;have K1:Hid (EnvF w1 [fF A n xs,stF] [(w.heap.size+1,#[.string f.1,.string f.2],27),(w.heap.size,#[.int .i64 M,.slice A n c],24)]):=Lib.hid (K0.out.on hb);have B1:Hid (Below w.heap.size w w1):=Lib.hid (below_step B0.out hb);have hl:=hm.look_yes fld_keyed Tryz.underlying153 hkey hin;unfold fdv at hl;clear hm;clear hb K0 B0)
   | (refine at_load 27 (.tmp 3) (by rfl) ?_;refine wpList_load_row (by rfl) 27 (.tmp 3) (by rfl) (w.heap.size+1) (by rfl) 27 #[.string f.1,.string f.2] (0,0) _ (K1.out.row 0 rfl) Tryz.underlying27 (by rfl) infoc_D ?_))
  go_ret2
  exact⟨ret2 rfl rfl,B1.out⟩
 ·have hno : ∀q∈esOf f.1 (num (stat++xs)),q.1≠fdv f:=fun q hq e=>by
   obtain⟨x,hx,e2,_⟩:=h1 q hq
   rw[e2] at e
   exact hmem (fdv_inj e ▸ hx)
  have h0:=ixOf_out hmem
  have e1:findI xs f=leOf f.1 (num (stat++xs)):=by unfold findI;rw[if_pos h0,leOf_num]
  have e2:findB xs f=false:=by unfold findB;rw[decide_eq_true h0];rfl
  rw[e1,e2]
  clear h1 h2 hmem h0 e1 e2
  have K0:Hid (EnvF ((w.alloc (.cells #[.int .i64 M,.slice A n c] 24)).alloc (.cells #[.string f.1,.string f.2] 27)) [fF A n xs,stF] [(w.heap.size+1,#[.string f.1,.string f.2],27),(w.heap.size,#[.int .i64 M,.slice A n c],24)]):=Lib.hid ((((envS w hR).addF hA).boxg 24 #[.int .i64 M,.slice A n c] (w.heap.size) (by simp)).boxg 27 #[.string f.1,.string f.2] (w.heap.size+1) (by simp))
  have B0:Hid (Below w.heap.size w ((w.alloc (.cells #[.int .i64 M,.slice A n c] 24)).alloc (.cells #[.string f.1,.string f.2] 27))):=Lib.hid (((Below.refl _ w).alloc (by first | exact Nat.le_refl _ | (simp only[World.size_alloc];omega)) (.cells #[.int .i64 M,.slice A n c] 24)).alloc (by first | exact Nat.le_refl _ | (simp only[World.size_alloc];omega)) (.cells #[.string f.1,.string f.2] 27))
  go_enter Tryz.func121,Tryz.ntmps121
  go_wp2_with (first
   | go_skip
   | (refine at_load 24 (.tmp 2) (by rfl) ?_;refine wpList_load_row (by rfl) 24 (.tmp 2) (by rfl) (w.heap.size) (by rfl) 24 #[.int .i64 M,.slice A n c] (0,0) _ (K0.out.row 1 rfl) Tryz.underlying24 (by rfl) infoc_T ?_)
   | (refine at_load 9 (.tmp 12) (by rfl) ?_;refine wpList_get (by rfl) 9 (.tmp 12) (by rfl) (w.heap.size+1) 0 (by rfl) 27 #[.string f.1,.string f.2] (.string f.1) _ (K0.out.row 0 rfl) (by rfl) Tryz.underlying9 (by rfl) ?_)
   | (go_at_call 135;(have hc:=(t_named M A n c xs f.1 ((w.alloc (.cells #[.int .i64 M,.slice A n c] 24)).alloc (.cells #[.string f.1,.string f.2] 27)) (Tb.EnvF.stv K0.out (by simp)) (K0.out.fs (A:=A) (n:=n) (xs:=xs) (by simp)) hnm hF);(with_reducible refine hc.mono ?_);clear hc);rintro e w1 ⟨b1,rfl,hm,hb⟩;have K1:Hid (EnvF w1 [fF A n xs,stF] [(w.heap.size+1,#[.string f.1,.string f.2],27),(w.heap.size,#[.int .i64 M,.slice A n c],24)]):=Lib.hid (K0.out.on hb);have B1:Hid (Below w.heap.size w w1):=Lib.hid (below_step B0.out hb);have hl:=hm.look_no fld_keyed Tryz.underlying153 (z:=.int .i64 0) (e:=3) rfl hkey hno;unfold fdv at hl;clear hm;clear hb K0 B0)
   | (refine at_load 27 (.tmp 3) (by rfl) ?_;refine wpList_load_row (by rfl) 27 (.tmp 3) (by rfl) (w.heap.size+1) (by rfl) 27 #[.string f.1,.string f.2] (0,0) _ (K1.out.row 0 rfl) Tryz.underlying27 (by rfl) infoc_D ?_))
  go_ret2
  exact⟨ret2 rfl rfl,B1.out⟩
end Go.Proofs.YtahiajeggbpogaaGreatDoor
