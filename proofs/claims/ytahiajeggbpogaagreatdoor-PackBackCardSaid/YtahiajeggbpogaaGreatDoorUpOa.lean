import Derived.Test.YtahiajeggbpogaaGreatDoorUpOp
import Derived.Test.YtahiajeggbpogaaGreatDoorUpO
import Derived.Test.YtahiajeggbpogaaGreatDoorUpY
import Derived.Test.YtahiajeggbpogaaGreatDoorTxG
set_option maxRecDepth 100000
set_option maxHeartbeats 4000000
namespace Go.Proofs.YtahiajeggbpogaaGreatDoor
open Go.RowKit Go.Shelf Px Tx Tb Up
set_option linter.unusedVariables false
set_option linter.unusedSimpArgs false
attribute [local go_sem] Oper.semAt_some
namespace Up
def opc(LA:Option Addr)(ln lc:Nat)(v:Value)(G:Bool)(M:Int)(A:Option Addr)(n c:Nat)(S:Nat)(Y:Bool):Array Value:=#[.slice LA ln lc,v,.bool G,.int .i64 M,.slice A n c,.int .i64 (S:Int),.bool Y]
structure OpL (w:World) (fs:List Fact) (gl:List Bx) (i g:Nat) (LA:Option Addr) (ln lc:Nat) (v:Value) (G:Bool) (M:Int) (A:Option Addr) (n c:Nat) (S:Nat) (Y:Bool) (xs:List Fd) (ls:List UInt8):Prop where
 e:EnvF w fs gl
 i:gl[i]? = some (g,opc LA ln lc v G M A n c S Y,67)
 f:fF A n xs∈fs
 l:bF LA ln ls∈fs
 hl:ln≤lc
 hN:LA=none→lc=0
 hA:A=none→c=0
def OpC(w:World)(fs:List Fact)(gl:List Bx)(i g:Nat)(v:Value)(G:Bool)(M:Int)(A:Option Addr)(n c:Nat)(S:Nat)(Y:Bool)(xs:List Fd)(ls:List UInt8):Prop:=
 ∃LA ln lc,OpL w (bF LA ln ls::fs) (gl.set i (g,opc LA ln lc v G M A n c S Y,67)) i g LA ln lc v G M A n c S Y xs ls
theorem OpL.row{w:World}{fs:List Fact}{gl:List Bx}{i g:Nat}{LA:Option Addr}{ln lc:Nat}{v:Value}{G:Bool}{M:Int}{A:Option Addr}{n c S:Nat}{Y:Bool}{xs:List Fd}{ls:List UInt8}(h:OpL w fs gl i g LA ln lc v G M A n c S Y xs ls):w.heap[g]? = some (.cells (opc LA ln lc v G M A n c S Y) 67):=h.e.row i h.i
theorem OpL.on{w w':World}{fs:List Fact}{gl:List Bx}{i g:Nat}{LA:Option Addr}{ln lc:Nat}{v:Value}{G:Bool}{M:Int}{A:Option Addr}{n c S:Nat}{Y:Bool}{xs:List Fd}{ls:List UInt8}(h:OpL w fs gl i g LA ln lc v G M A n c S Y xs ls)(hb:Below w.heap.size w w'):OpL w' fs gl i g LA ln lc v G M A n c S Y xs ls:=⟨h.e.on hb,h.i,h.f,h.l,h.hl,h.hN,h.hA⟩
theorem OpL.lt{w:World}{fs:List Fact}{gl:List Bx}{i g:Nat}{LA:Option Addr}{ln lc:Nat}{v:Value}{G:Bool}{M:Int}{A:Option Addr}{n c S:Nat}{Y:Bool}{xs:List Fd}{ls:List UInt8}(h:OpL w fs gl i g LA ln lc v G M A n c S Y xs ls):g<w.heap.size:=(Array.getElem?_eq_some_iff.1 h.row).1
theorem takL_yes{ls:List UInt8}{k:Nat}(h1:1≤k)(h8:k≤8)(h:nC ls k=0):takL ls (k:Int)=nR ls k:=by
 unfold takL
 rw[takC_yes h1 h8,n_yes h]
 simp only[if_true]
 rfl
end Up
theorem infoc_OB:(Tryz.prog.info? 25).map (·.size)=some 1:=by kernel_rfl
theorem d_number_no{fs:List Fact}{gl:List Bx}{i g:Nat}{LA:Option Addr}{ln lc:Nat}{v:Value}{G:Bool}{M:Int}{A:Option Addr}{n c S:Nat}{Y:Bool}{xs:List Fd}{ls:List UInt8}(k:Nat)(w:World)(hO:OpL w fs gl i g LA ln lc v G M A n c S Y xs ls)(h1:1≤k)(h8:k≤8)(hn:ln≤100000)(h:nC ls k≠0) :
  Calls Tryz.prog 65 #[.pointer (some ⟨g,0,none⟩),.int .i64 (k:Int)] w fun e w'=>e = .returned (.tuple #[.int .i64 (nV ls k:Int),.int .i64 (nC ls k:Int)])∧Below w.heap.size w w':=by
 have H:=Lib.hid (Y_Take LA ln lc ls k w (hO.e.bs hO.l) hO.hl (by omega))
 rw[takC_yes h1 h8] at H
 have K0:=Lib.hid hO
 have e1:(takeN ls k).2.1=nV ls k:=rfl
 have e2:(takeN ls k).1=nC ls k:=rfl
 rw[e1,e2] at H
 generalize nV ls k=V at *
 generalize hc:nC ls k=C at *
 have d1:((C:Int)==0)=false:=by simp;omega
 clear hO hc h
 go_enter Tryz.func65,Tryz.ntmps65
 go_wp2_with (first
  | go_skip
  | (refine at_load 25 (.tmp 12) (by rfl) ?_;refine wpList_get (by rfl) 25 (.tmp 12) (by rfl) g 0 (by rfl) 67 (opc LA ln lc v G M A n c S Y) (.slice LA ln lc) _ (K0.out.row) (by rfl) Tryz.underlying25 (by rfl) ?_)
  | (go_at_call 89;(with_reducible refine H.out.mono ?_);rintro e w1 ⟨A1,c1,rfl,hh,hb⟩;have HB:=Lib.hid hb;clear hh hb))
 go_ret2
 exact⟨rfl,HB.out⟩
theorem d_number_yes{fs:List Fact}{gl:List Bx}{i g B:Nat}{LA:Option Addr}{ln lc:Nat}{v:Value}{G:Bool}{M:Int}{A:Option Addr}{n c S:Nat}{Y:Bool}{xs:List Fd}{ls:List UInt8}(k:Nat)(w:World)(hO:OpL w fs gl i g LA ln lc v G M A n c S Y xs ls)(h1:1≤k)(h8:k≤8)(hn:ln≤100000)(hB:B≤g)(h:nC ls k=0) :
  Calls Tryz.prog 65 #[.pointer (some ⟨g,0,none⟩),.int .i64 (k:Int)] w fun e w'=>e = .returned (.tuple #[.int .i64 (nV ls k:Int),.int .i64 0])∧Below B w w'∧OpC w' fs gl i g v G M A n c S Y xs (nR ls k):=by
 have H:=Lib.hid (Y_Take LA ln lc ls k w (hO.e.bs hO.l) hO.hl (by omega))
 rw[takC_yes h1 h8,takL_yes h1 h8 h] at H
 have K0:=Lib.hid hO
 have e1:(takeN ls k).2.1=nV ls k:=rfl
 have e2:(takeN ls k).1=0:=h
 rw[e1,e2] at H
 generalize nV ls k=V at *
 generalize nR ls k=R at *
 obtain⟨rn,hrn⟩ : ∃r,R.length=r:=⟨_,rfl⟩
 rw[hrn] at H
 have hlt:=hO.lt
 clear hO h hrn
 go_enter Tryz.func65,Tryz.ntmps65
 go_wp2_with (first
  | go_skip
  | (refine at_load 25 (.tmp 12) (by rfl) ?_;refine wpList_get (by rfl) 25 (.tmp 12) (by rfl) g 0 (by rfl) 67 (opc LA ln lc v G M A n c S Y) (.slice LA ln lc) _ (K0.out.row) (by rfl) Tryz.underlying25 (by rfl) ?_)
  | (go_at_call 89;(with_reducible refine H.out.mono ?_);rintro e w1 ⟨A1,c1,rfl,hh,hb⟩;have K1:=Lib.hid (K0.out.on hb);have E1:=Lib.hid (K0.out.e.handS hb hh);have HC:=Lib.hid hh.2.2;have HB:=Lib.hid (hb.mono (show B≤w.heap.size by omega));clear hh hb)
  | (refine at_store 25 (.tmp 24) (.tmp 22) (by rfl) ?_;refine wpList_put (by rfl) 25 (.tmp 24) (.tmp 22) (by rfl) g 0 (.slice A1 rn c1) (by rfl) (by rfl) 67 (opc LA ln lc v G M A n c S Y) (opc A1 rn c1 v G M A n c S Y) (K1.out.row) (by simp[Value.cells,opc]) (by kernel_rfl) infoc_OB (by kernel_rfl) ?_;intro w2 hrow hoth hz hbl;have E2:=Lib.hid (E1.out.turn i K1.out.i hrow hoth hz);have HB2:=Lib.hid (hbl _ _ hB HB.out);clear hrow hoth hz hbl))
 go_ret2
 exact⟨rfl,HB2.out,A1,rn,c1,E2.out,set_ix K1.out.i,List.mem_cons_of_mem _ K1.out.f,List.mem_cons_self ..,HC.out.1,HC.out.2,K1.out.hA⟩
theorem d_text_no{fs:List Fact}{gl:List Bx}{i g:Nat}{LA:Option Addr}{ln lc:Nat}{v:Value}{G:Bool}{M:Int}{A:Option Addr}{n c S:Nat}{Y:Bool}{xs:List Fd}{ls:List UInt8}(w:World)(hO:OpL w fs gl i g LA ln lc v G M A n c S Y xs ls)(hn:ln≤10000)(h:tE ls≠0) :
  Calls Tryz.prog 91 #[.pointer (some ⟨g,0,none⟩)] w fun e w'=>e = .returned (.tuple #[.string ⟨(tS ls).toArray⟩,.int .i64 (tE ls)])∧Below w.heap.size w w':=by
 have H:=Lib.hid (y_Take LA ln lc ls w (hO.e.bs hO.l) hO.hl (by omega) (.inl hn))
 have K0:=Lib.hid hO
 generalize tS ls=V at *
 generalize tE ls=C at *
 have d1:(C==0)=false:=by simpa using h
 clear hO h
 go_enter Tryz.func91,Tryz.ntmps91
 go_wp2_with (first
  | go_skip
  | (refine at_load 25 (.tmp 10) (by rfl) ?_;refine wpList_get (by rfl) 25 (.tmp 10) (by rfl) g 0 (by rfl) 67 (opc LA ln lc v G M A n c S Y) (.slice LA ln lc) _ (K0.out.row) (by rfl) Tryz.underlying25 (by rfl) ?_)
  | (go_at_call 107;(with_reducible refine H.out.mono ?_);rintro e w1 ⟨A1,c1,rfl,hh,hb⟩;have HB:=Lib.hid hb;clear hh hb))
 go_ret2
 exact⟨rfl,HB.out⟩
theorem d_text_yes{fs:List Fact}{gl:List Bx}{i g B:Nat}{LA:Option Addr}{ln lc:Nat}{v:Value}{G:Bool}{M:Int}{A:Option Addr}{n c S:Nat}{Y:Bool}{xs:List Fd}{ls:List UInt8}(w:World)(hO:OpL w fs gl i g LA ln lc v G M A n c S Y xs ls)(hn:ln≤10000)(hB:B≤g)(h:tE ls=0) :
  Calls Tryz.prog 91 #[.pointer (some ⟨g,0,none⟩)] w fun e w'=>e = .returned (.tuple #[.string ⟨(tS ls).toArray⟩,.int .i64 0])∧Below B w w'∧OpC w' fs gl i g v G M A n c S Y xs (tRs ls):=by
 have H:=Lib.hid (y_Take LA ln lc ls w (hO.e.bs hO.l) hO.hl (by omega) (.inl hn))
 rw[h,tR_eq h] at H
 have K0:=Lib.hid hO
 generalize tS ls=V at *
 generalize tRs ls=R at *
 obtain⟨rn,hrn⟩ : ∃r,R.length=r:=⟨_,rfl⟩
 rw[hrn] at H
 have hlt:=hO.lt
 clear hO h hrn
 go_enter Tryz.func91,Tryz.ntmps91
 go_wp2_with (first
  | go_skip
  | (refine at_load 25 (.tmp 10) (by rfl) ?_;refine wpList_get (by rfl) 25 (.tmp 10) (by rfl) g 0 (by rfl) 67 (opc LA ln lc v G M A n c S Y) (.slice LA ln lc) _ (K0.out.row) (by rfl) Tryz.underlying25 (by rfl) ?_)
  | (go_at_call 107;(with_reducible refine H.out.mono ?_);rintro e w1 ⟨A1,c1,rfl,hh,hb⟩;have K1:=Lib.hid (K0.out.on hb);have E1:=Lib.hid (K0.out.e.handS hb hh);have HC:=Lib.hid hh.2.2;have HB:=Lib.hid (hb.mono (show B≤w.heap.size by omega));clear hh hb)
  | (refine at_store 25 (.tmp 21) (.tmp 19) (by rfl) ?_;refine wpList_put (by rfl) 25 (.tmp 21) (.tmp 19) (by rfl) g 0 (.slice A1 rn c1) (by rfl) (by rfl) 67 (opc LA ln lc v G M A n c S Y) (opc A1 rn c1 v G M A n c S Y) (K1.out.row) (by simp[Value.cells,opc]) (by kernel_rfl) infoc_OB (by kernel_rfl) ?_;intro w2 hrow hoth hz hbl;have E2:=Lib.hid (E1.out.turn i K1.out.i hrow hoth hz);have HB2:=Lib.hid (hbl _ _ hB HB.out);clear hrow hoth hz hbl))
 go_ret2
 exact⟨rfl,HB2.out,A1,rn,c1,E2.out,set_ix K1.out.i,List.mem_cons_of_mem _ K1.out.f,List.mem_cons_self ..,HC.out.1,HC.out.2,K1.out.hA⟩
end Go.Proofs.YtahiajeggbpogaaGreatDoor
