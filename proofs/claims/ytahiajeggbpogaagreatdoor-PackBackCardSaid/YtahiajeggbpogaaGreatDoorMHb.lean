import Derived.Test.YtahiajeggbpogaaGreatDoorMGa
import Derived.Test.YtahiajeggbpogaaGreatDoorRows
import Derived.Lib.Bytealg
import Derived.Test.YtahiajeggbpogaaGreatDoorMHa
import Derived.RegionTactic
import Derived.BigQuiet
import Derived.Deep.QuietTactic
import Derived.ProofKit
import Derived.LaidMore
import Derived.LaidLaws
import Derived.OpenShut
import Derived.Stop.Joined
import Derived.ChangeSame
import Derived.DeepKeys4
import Derived.WalkSpells
import Derived.Laws.Strings
import Derived.Lib.Strings
import Derived.Test.YtahiajeggbpogaaGreatDoorMOc
import Derived.Stop.RegionWithIn
set_option maxRecDepth 100000
set_option maxHeartbeats 4000000
namespace Go.Proofs.YtahiajeggbpogaaGreatDoor
open Go.RowKit
theorem h_ix(s:ByteArray)(c:Int)(w:World) :
  Calls Tryz.prog 143 #[.string s,.int .u8 c] w fun e w'=>e = .returned (.int .i64 (Lib.indexByte s.data.toList c.toNat.toUInt8))∧w=w':=by
 have hd : ∀W,(callFunc 158 #[.string s,.int .u8 c]).run Tryz.prog W = .ok (.value (.int .i64 (Lib.indexByte s.data.toList c.toNat.toUInt8))) W:=fun W=>by
  rw[run_callFunc_extern Tryz.func158 (by kernel_rfl) (by kernel_rfl) (by kernel_rfl) (e:=Extern.BytealgIndexByte.indexByte) (by kernel_rfl),Lib.run_indexByteString];rfl
 go_enter Tryz.func143,Tryz.ntmps143
 go_wp2
 go_ret
 exact⟨rfl,rfl⟩
end Go.Proofs.YtahiajeggbpogaaGreatDoor
namespace Go.Proofs.YtahiajeggbpogaaGreatDoor
open Go.RowKit Hf
set_option linter.unusedVariables false
set_option linter.unusedSimpArgs false
namespace Hf
def rowS(k:Nat):ByteArray:=⟨(rowL k).toArray⟩
def rowsA:Array Value:=#[.int .i64 5,.int .i64 0,.string (rowS 0),.int .i64 6,.int .i64 32,.string (rowS 1),.int .i64 7,.int .i64 96,.string (rowS 2),.int .i64 11,.int .i64 1792,.string (rowS 3)]
def rowsV:Value:=.agg rowsA
def Rws(w:World):Prop:=∀j v,rowsA[j]? = some v→w.cell? ⟨6,j,none⟩=some v
theorem Rws.lt{w:World}(h:Rws w):6<w.heap.size:=block_lt_of_cell (h 0 (.int .i64 5) rfl)
theorem Rws.on{w w':World}(h:Rws w)(hb:Below w.heap.size w w'):Rws w':=fun j v hj=>(hb.cell (p:=⟨6,j,none⟩) h.lt).trans (h j v hj)
theorem Rws.below{w w':World}{B:Nat}(h:Rws w)(hb:Below B w w')(hB:6<B):Rws w':=fun j v hj=>(hb.cell (p:=⟨6,j,none⟩) hB).trans (h j v hj)
theorem run_rows{w:World}(h:Rws w):(loadVar 163 ⟨6,0,none⟩).run Tryz.prog w = .ok rowsV w:=by
 have hl:(loadCells ⟨6,0,none⟩ rowsA.toList.length).run Tryz.prog w = .ok rowsA.toList.toArray w:=
  run_loadCells_list (P:=Tryz.prog) w ⟨6,0,none⟩ rowsA.toList (fun j v hv=>by
   have hadd:(⟨6,0,none⟩:Addr).add j=⟨6,j,none⟩:=by unfold Addr.add;split<;>simp_all
   rw[hadd]
   exact h j v (by simpa using hv))
 have hagg:(isAgg 163).run Tryz.prog w = .ok true w:=by kernel_rfl
 have hsz:(sizeOf 163).run Tryz.prog w = .ok 12 w:=by kernel_rfl
 have e12:rowsA.toList.length=12:=rfl
 rw[e12] at hl
 simp only[Array.toArray_toList] at hl
 simp[loadVar,Sem.run_bind,hagg,hsz,hl]
 rfl
theorem wpList_load_rows{w:World}{ops:Array Oper}{rest:List Oper}{o:Oper}{a:Act}{Q:Exit→Act→World→Prop}(h:Rws w)(hgd:o.guard=none)(ho:o.op = .load 163 (.global 6))
  (hK:wpList Tryz.prog ops Q rest (a.put o.dst rowsV) w):wpList Tryz.prog ops Q (o::rest) a w:=
 wpList_plain hgd fun _ hK'=>by
  unfold Oper.wp execOp
  have hx:a.eval (.global 6) = .pointer (some ⟨6,0,none⟩):=rfl
  simp only[ho,hx,Instr.loadAt,Instr.sureAddr,Sem.run_bind,Sem.run_pure,Result.andThen_ok,run_rows h]
  exact hK' _ _ hK
theorem idx0(w:World):(Instr.index 163 rowsV (.int .i64 0)).run Tryz.prog w = .ok (.agg #[.int .i64 5,.int .i64 0,.string (rowS 0)]) w:=by kernel_rfl
theorem idx1(w:World):(Instr.index 163 rowsV (.int .i64 1)).run Tryz.prog w = .ok (.agg #[.int .i64 6,.int .i64 32,.string (rowS 1)]) w:=by kernel_rfl
theorem idx2(w:World):(Instr.index 163 rowsV (.int .i64 2)).run Tryz.prog w = .ok (.agg #[.int .i64 7,.int .i64 96,.string (rowS 2)]) w:=by kernel_rfl
theorem idx3(w:World):(Instr.index 163 rowsV (.int .i64 3)).run Tryz.prog w = .ok (.agg #[.int .i64 11,.int .i64 1792,.string (rowS 3)]) w:=by kernel_rfl
theorem ix_hitF : ∀n:Fin 256,Lib.indexByte (rowL (rowOf (UInt8.ofNat n.val))) (UInt8.ofNat n.val)=(cod (UInt8.ofNat n.val):Int)-(rowF (rowOf (UInt8.ofNat n.val)):Int):=by decide +kernel
theorem ix_hit(c:UInt8):Lib.indexByte (rowL (rowOf c)) c=(cod c:Int)-(rowF (rowOf c):Int):=all_bytes (p:=fun c=>Lib.indexByte (rowL (rowOf c)) c=(cod c:Int)-(rowF (rowOf c):Int)) ix_hitF c
theorem ix_missF : ∀n:Fin 256,∀k:Fin 4,k.val<rowOf (UInt8.ofNat n.val)→Lib.indexByte (rowL k.val) (UInt8.ofNat n.val) = -1:=by decide +kernel
theorem ix_miss(c:UInt8){k:Nat}(hk:k<rowOf c)(h4:k<4):Lib.indexByte (rowL k) c = -1:=all_bytes (p:=fun c=>∀k:Fin 4,k.val<rowOf c→Lib.indexByte (rowL k.val) c = -1) ix_missF c ⟨k,h4⟩ hk
theorem rowOf_le(c:UInt8):rowOf c≤3:=by unfold rowOf;split<;>(try split)<;>(try split)<;>omega
theorem rowF_le(c:UInt8):rowF (rowOf c)≤cod c:=by unfold cod;omega
end Hf
theorem h_ixS(k:Nat)(c:UInt8)(X:Int)(w:World)(h:Lib.indexByte (rowL k) c=X) :
  Calls Tryz.prog 143 #[.string (rowS k),.int .u8 (c.toNat:Int)] w fun e w'=>e = .returned (.int .i64 X)∧w=w':=by
 refine(h_ix (rowS k) (c.toNat:Int) w).mono ?_
 rintro e w' ⟨rfl,rfl⟩
 refine⟨?_,rfl⟩
 rw[←h]
 have:((c.toNat:Int)).toNat.toUInt8=c:=by simp
 rw[this]
 rfl
end Go.Proofs.YtahiajeggbpogaaGreatDoor
namespace Go.Proofs.YtahiajeggbpogaaGreatDoor
open Go.ChangeShapes Go.WideShapes Go.ChangeAt Go.WideMaps Go.WideElems Go.RowKit Hf
set_option linter.unusedVariables false
theorem row_cells{H:Type}{enc:TypeId×Value→H}{W:World}{base:Nat}{spare:Nat→Bool}{held:Bool}{m:Nat}{c0 c1 c2:Value}{x:DataW H×List MemPlace}{a b:Int}{s:List UInt8}
  (h:DataW.trod enc Tryz.prog W base spare held m 162 [c0,c1,c2]=some x) (hx:x.1 = .agg [.lit (.int .i64 a),.lit (.int .i64 b),.lit (.string s)]) :
  c0 = .int .i64 a∧c1 = .int .i64 b∧c2 = .string ⟨s.toArray⟩:=by
 obtain⟨ys,n,_,rfl,hl,hlen,hf⟩:=DataW.trod_struct Tryz.underlying162 h
 have h0:=hf 0 _ rfl
 have h1:=hf 1 _ rfl
 have h2:=hf 2 _ rfl
 match ys,hlen with
 | [y0,y1,y2],_=>
  simp only[List.map_cons,List.map_nil,DataW.agg.injEq,List.cons.injEq,and_true] at hx
  replace h0:DataW.trod _ Tryz.prog W _ _ _ n 3 [c0]=some y0:=h0
  replace h1:DataW.trod _ Tryz.prog W _ _ _ n 3 [c1]=some y1:=h1
  replace h2:DataW.trod _ Tryz.prog W _ _ _ n 9 [c2]=some y2:=h2
  obtain⟨k0,e0,r0,_⟩:=DataW.trod_int Tryz.underlying3 h0
  obtain⟨k1,e1,r1,_⟩:=DataW.trod_int Tryz.underlying3 h1
  obtain⟨s2,e2,r2,_⟩:=DataW.trod_string Tryz.underlying9 h2
  subst r0
  subst r1
  subst r2
  simp only[DataW.lit.injEq,Lit.int.injEq,Lit.string.injEq,true_and] at hx
  obtain⟨rfl,rfl,rfl⟩:=hx
  simp only[List.cons.injEq,and_true] at e0 e1 e2
  exact⟨e0,e1,e2⟩
end Go.Proofs.YtahiajeggbpogaaGreatDoor
namespace Go.Proofs.YtahiajeggbpogaaGreatDoor
open Go.RowKit Hf
set_option linter.unusedVariables false
set_option linter.unusedSimpArgs false
theorem Hf.below_dN{B:Nat}{a w:World}(h:Below B a w)(n:Nat):Below B a (w.drewN n):=h.trans ⟨rfl,rfl,rfl,Nat.le_refl _,fun _ _=>rfl⟩
theorem h_code(c:UInt8)(w:World)(hR:Rws w) :
  Calls Tryz.prog 127 #[.int .u8 (c.toNat:Int)] w fun e w'=>e = .returned (.tuple #[.int .i64 (cod c:Int),.int .i64 (mny c:Int)])∧Below w.heap.size w w':=by
 have HR:=Lib.hid hR
 have h3:=rowOf_le c
 clear hR
 go_enter Tryz.func127,Tryz.ntmps127
 go_wp2_with (with_reducible refine wpList_load_rows HR.out rfl rfl ?_)
 go_loopw [8] (fun t wr=>∃k:Nat,k≤rowOf c∧t = .int .i64 (k:Int)∧Below w.heap.size w wr) (fun t _=>4-(intOf t).toNat)
 case atStart=>exact⟨0,Nat.zero_le _,rfl,Below.refl _ _⟩
 case round=>
  obtain⟨k,hk,rfl,hbel⟩:=hrel
  have HB:=Lib.hid hbel
  have hk4:k=0∨k=1∨k=2∨k=3:=by omega
  clear hbel
  obtain rfl | rfl | rfl | rfl:=hk4
  ·by_cases hlt:0<rowOf c
   ·have hm:=Lib.hid (ix_miss c hlt (by omega))
    have i0:=idx0 wr
    go_wp2_with (go_at_call 143;(with_reducible refine(h_ixS 0 c (-1) _ hm.out).mono ?_);rintro e w' ⟨rfl,rfl⟩)
    go_roundw
    case rel=>exact⟨1,hlt,rfl,HB.out.alloc (by exact HB.out.size) _⟩
    case measure=>simp[intOf]
   ·have he:rowOf c=0:=by omega
    have hx:=ix_hit c
    have hmn:mny c=rowM 0:=by unfold mny;rw[he]
    have hge:=rowF_le c
    rw[he] at hx hge
    obtain⟨X,hX⟩ : ∃X:Nat,cod c=rowF 0+X:=⟨cod c-rowF 0,by omega⟩
    have hxx:Lib.indexByte (rowL 0) c=(X:Int):=by rw[hx,hX,Int.natCast_add];omega
    have hlt2:X<2000:=by have:=cod_range c;omega
    have hm:=Lib.hid hxx
    have HM:=Lib.hid hmn
    have HX:=Lib.hid hX
    have i0:=idx0 wr
    clear hx hxx hmn hge hX he hk hlt
    go_wp2_with (go_at_call 143;(with_reducible refine(h_ixS 0 c (X:Int) _ hm.out).mono ?_);rintro e w' ⟨rfl,rfl⟩)
    go_quiet (fail)
    go_wp2
    go_ret2
    exact⟨by rw[HX.out,HM.out];simp[rowF,rowM],below_dN (HB.out.alloc (by exact HB.out.size) _) _⟩
  ·by_cases hlt:1<rowOf c
   ·have hm:=Lib.hid (ix_miss c hlt (by omega))
    have i1:=idx1 wr
    go_wp2_with (go_at_call 143;(with_reducible refine(h_ixS 1 c (-1) _ hm.out).mono ?_);rintro e w' ⟨rfl,rfl⟩)
    go_roundw
    case rel=>exact⟨2,hlt,rfl,HB.out.alloc (by exact HB.out.size) _⟩
    case measure=>simp[intOf]
   ·have he:rowOf c=1:=by omega
    have hx:=ix_hit c
    have hmn:mny c=rowM 1:=by unfold mny;rw[he]
    have hge:=rowF_le c
    rw[he] at hx hge
    obtain⟨X,hX⟩ : ∃X:Nat,cod c=rowF 1+X:=⟨cod c-rowF 1,by omega⟩
    have hxx:Lib.indexByte (rowL 1) c=(X:Int):=by rw[hx,hX,Int.natCast_add];omega
    have hlt2:X<2000:=by have:=cod_range c;omega
    have hm:=Lib.hid hxx
    have HM:=Lib.hid hmn
    have HX:=Lib.hid hX
    have i1:=idx1 wr
    clear hx hxx hmn hge hX he hk hlt
    go_wp2_with (go_at_call 143;(with_reducible refine(h_ixS 1 c (X:Int) _ hm.out).mono ?_);rintro e w' ⟨rfl,rfl⟩)
    go_quiet (fail)
    go_wp2
    go_ret2
    exact⟨by rw[HX.out,HM.out];simp[rowF,rowM],below_dN (HB.out.alloc (by exact HB.out.size) _) _⟩
  ·by_cases hlt:2<rowOf c
   ·have hm:=Lib.hid (ix_miss c hlt (by omega))
    have i2:=idx2 wr
    go_wp2_with (go_at_call 143;(with_reducible refine(h_ixS 2 c (-1) _ hm.out).mono ?_);rintro e w' ⟨rfl,rfl⟩)
    go_roundw
    case rel=>exact⟨3,hlt,rfl,HB.out.alloc (by exact HB.out.size) _⟩
    case measure=>simp[intOf]
   ·have he:rowOf c=2:=by omega
    have hx:=ix_hit c
    have hmn:mny c=rowM 2:=by unfold mny;rw[he]
    have hge:=rowF_le c
    rw[he] at hx hge
    obtain⟨X,hX⟩ : ∃X:Nat,cod c=rowF 2+X:=⟨cod c-rowF 2,by omega⟩
    have hxx:Lib.indexByte (rowL 2) c=(X:Int):=by rw[hx,hX,Int.natCast_add];omega
    have hlt2:X<2000:=by have:=cod_range c;omega
    have hm:=Lib.hid hxx
    have HM:=Lib.hid hmn
    have HX:=Lib.hid hX
    have i2:=idx2 wr
    clear hx hxx hmn hge hX he hk hlt
    go_wp2_with (go_at_call 143;(with_reducible refine(h_ixS 2 c (X:Int) _ hm.out).mono ?_);rintro e w' ⟨rfl,rfl⟩)
    go_quiet (fail)
    go_wp2
    go_ret2
    exact⟨by rw[HX.out,HM.out];simp[rowF,rowM],below_dN (HB.out.alloc (by exact HB.out.size) _) _⟩
  ·by_cases hlt:3<rowOf c
   ·omega
   ·have he:rowOf c=3:=by omega
    have hx:=ix_hit c
    have hmn:mny c=rowM 3:=by unfold mny;rw[he]
    have hge:=rowF_le c
    rw[he] at hx hge
    obtain⟨X,hX⟩ : ∃X:Nat,cod c=rowF 3+X:=⟨cod c-rowF 3,by omega⟩
    have hxx:Lib.indexByte (rowL 3) c=(X:Int):=by rw[hx,hX,Int.natCast_add];omega
    have hlt2:X<2000:=by have:=cod_range c;omega
    have hm:=Lib.hid hxx
    have HM:=Lib.hid hmn
    have HX:=Lib.hid hX
    have i3:=idx3 wr
    clear hx hxx hmn hge hX he hk hlt
    go_wp2_with (go_at_call 143;(with_reducible refine(h_ixS 3 c (X:Int) _ hm.out).mono ?_);rintro e w' ⟨rfl,rfl⟩)
    go_quiet (fail)
    go_wp2
    go_ret2
    exact⟨by rw[HX.out,HM.out];simp[rowF,rowM],below_dN (HB.out.alloc (by exact HB.out.size) _) _⟩
end Go.Proofs.YtahiajeggbpogaaGreatDoor
namespace Go.Proofs.YtahiajeggbpogaaGreatDoor
open Go.RowKit Hf
set_option linter.unusedVariables false
set_option linter.unusedSimpArgs false
theorem law_out:laidOutB Tryz.prog=true:=by kernel_rfl
namespace Hf
def rest(k j:Nat):ByteArray:=⟨((rowL k).drop (16*j)).toArray⟩
end Hf
end Go.Proofs.YtahiajeggbpogaaGreatDoor
namespace Go.Proofs.YtahiajeggbpogaaGreatDoor
open Go.RowKit Hf
set_option linter.unusedVariables false
set_option linter.unusedSimpArgs false
namespace Hf
def fnV(code many:Int):Int:=match findN code many with
 | some c=>(c.toNat:Int)
 | none=>0
def fnS(code many:Int):Bool:=(findN code many).isSome
theorem run_index_str(s:ByteArray)(i:Nat)(w:World)(h:i<s.size):(Instr.index 9 (.string s) (.int .i64 (i:Int))).run Tryz.prog w = .ok (.int .u8 ((s.data.toList[i]?.getD 0).toNat:Int)) w:=by
 rw[run_index_string w _ s _ _ Tryz.underlying9,dif_pos ⟨by omega,by omega⟩]
 congr 3
 rw[List.getElem?_eq_getElem (by rw[←Lib.size_eq];exact h),Option.getD_some]
 simp only[Int.toNat_natCast]
 rfl
end Hf
end Go.Proofs.YtahiajeggbpogaaGreatDoor
namespace Go.Proofs.YtahiajeggbpogaaGreatDoor
open Go.RowKit Hf Oct
set_option linter.unusedVariables false
set_option linter.unusedSimpArgs false
namespace Hf
theorem idx_hit(c:UInt8) : ∀(l:List UInt8) (k:Nat),l[k]? = some c→(∀j,j<k→l[j]?≠some c)→Lib.indexByte l c=(k:Int)
 | [],k,h,_=>by simp at h
 | b::l,0,h,_=>by
  simp only[List.getElem?_cons_zero,Option.some.injEq] at h
  subst h
  unfold Lib.indexByte
  simp
 | b::l,k+1,h,hn=>by
  have hb:b≠c:=fun e=>hn 0 (by omega) (by simp[e])
  have ih:=idx_hit c l k (by simpa using h) (fun j hj=>by have:=hn (j+1) (by omega);simpa using this)
  unfold Lib.indexByte
  have hb2:(b==c)=false:=by simpa using hb
  have h1:((k:Int) == -1)=false:=by simp
  rw[hb2,ih,h1]
  simp
theorem idx_miss(c:UInt8) : ∀(l:List UInt8),(∀j,j<l.length→l[j]?≠some c)→Lib.indexByte l c = -1
 | [],_=>rfl
 | b::l,hn=>by
  have hb:b≠c:=fun e=>hn 0 (by simp) (by simp[e])
  have ih:=idx_miss c l (fun j hj=>by have:=hn (j+1) (by simp;omega);simpa using this)
  unfold Lib.indexByte
  have hb2:(b==c)=false:=by simpa using hb
  rw[hb2,ih]
  rfl
end Hf
theorem r_place(s:ByteArray)(c:UInt8)(X:Int)(w:World)(hs:s.size≤1000)(hX:X=(c.toNat:Int)) :
  Calls Tryz.prog 132 #[.string s,.int .u8 X] w fun e w'=>e = .returned (.int .i64 (Lib.indexByte s.data.toList c))∧w=w':=by
 subst hX
 have HZ:=Lib.hid (Lib.size_eq s)
 go_enter Tryz.func132,Tryz.ntmps132
 go_wp2
 go_loop [5] (fun t=>∃k:Nat,k≤s.size∧t = .int .i64 (k:Int)∧∀j,j<k→s.data.toList[j]?≠some c) (fun t=>s.size-(intOf t).toNat)
 case atStart=>exact⟨0,Nat.zero_le _,rfl,fun j hj=>absurd hj (Nat.not_lt_zero _)⟩
 case round=>
  obtain⟨k,hk,rfl,hno⟩:=hrel
  have HN:=Lib.hid hno
  clear hno
  by_cases hlt:k<s.size
  ·have hix:=run_index_str s k w hlt
   have hkl:k<s.data.toList.length:=by rw[←HZ.out];exact hlt
   have hgx:s.data.toList[k]? = some s.data.toList[k]:=List.getElem?_eq_getElem hkl
   rw[hgx,Option.getD_some] at hix
   have HGX:=Lib.hid hgx
   clear hgx
   generalize s.data.toList[k]=x at *
   by_cases hxc:x=c
   ·subst hxc
    have HF:=Lib.hid (idx_hit x _ k HGX.out HN.out)
    go_wp2
    go_ret
    exact⟨ret_int HF.out.symm,rfl⟩
   ·have hq:((x.toNat:Int)==(c.toNat:Int))=false:=by
     simp only[beq_eq_false_iff_ne,ne_eq]
     intro e
     exact hxc (UInt8.toNat_inj.1 (by omega))
    go_wp2
    go_round
    case rel=>exact⟨k+1,by omega,by go_num,fun j hj=>by
     by_cases h:j<k
     ·exact HN.out j h
     ·obtain rfl:j=k:=by omega
      rw[HGX.out]
      intro e
      exact hxc (Option.some.inj e)⟩
    case measure=>simp[intOf];omega
  ·have HF:=Lib.hid (idx_miss c s.data.toList fun j hj=>HN.out j (by rw[←HZ.out] at hj;omega))
   go_wp2
   go_ret
   exact⟨ret_int HF.out.symm,rfl⟩
namespace Hf
def all48:List UInt8:=five++six++seven
def cnt:Nat→Nat
 | 0=>0
 | k+1=>cnt k+if Lib.indexByte all48 (UInt8.ofNat k) = -1 then 1 else 0
theorem cnt_le(k:Nat):cnt k≤k:=by
 induction k with
 | zero=>exact Nat.le_refl _
 | succ k ih=>unfold cnt;split<;>omega
theorem cnt_codF : ∀n:Fin 256,rowOf (UInt8.ofNat n.val)=3→cod (UInt8.ofNat n.val)=1792+cnt n.val:=by decide +kernel
theorem ix_ge(l:List UInt8)(c:UInt8):Lib.indexByte l c = -1∨0≤Lib.indexByte l c:=by have:=Lib.indexByte_ge l c;omega
end Hf
theorem r_others(n:Nat)(w:World)(hn:n≤255) :
  Calls Tryz.prog 133 #[.int .u8 (n:Int)] w fun e w'=>e = .returned (.int .i64 (cnt n:Int))∧w=w':=by
 go_enter Tryz.func133,Tryz.ntmps133
 go_wp2
 go_loop [3,4] (fun s t=>∃k:Nat,k≤n∧t = .int .i64 (k:Int)∧s = .int .i64 (cnt k:Int)) (fun _ t=>n-(intOf t).toNat)
 case atStart=>exact⟨0,Nat.zero_le _,rfl,rfl⟩
 case round=>
  obtain⟨k,hk,rfl,rfl⟩:=hrel
  have hc:=cnt_le k
  by_cases hlt:k<n
  ·have HC:Hid (cnt (k+1)=cnt k+if Lib.indexByte all48 (UInt8.ofNat k) = -1 then 1 else 0):=Lib.hid rfl
   have hp : ∀X,X=(((UInt8.ofNat k).toNat:Nat):Int)→Calls Tryz.prog 132 #[.string { data:=#[45,47,48,49,50,51,97,99,101,105,110,111,114,115,116,117,46,52,53,54,55,56,57,58,98,100,102,103,104,108,109,112,65,66,67,68,69,70,71,72,106,107,113,118,119,120,121,122] },.int .u8 X] w fun e w'=>e = .returned (.int .i64 (Lib.indexByte all48 (UInt8.ofNat k)))∧w=w':=fun X hX=>r_place { data:=#[45,47,48,49,50,51,97,99,101,105,110,111,114,115,116,117,46,52,53,54,55,56,57,58,98,100,102,103,104,108,109,112,65,66,67,68,69,70,71,72,106,107,113,118,119,120,121,122] } (UInt8.ofNat k) X w (by decide) hX
   have HP:=Lib.hid hp
   clear hp
   generalize cnt k=S at *
   rcases ix_ge all48 (UInt8.ofNat k) with hi | hi
   ·rw[hi] at HP HC
    go_wp2_with (go_at_call 132;(with_reducible refine(HP.out _ (by simp;omega)).mono ?_);rintro e w' ⟨rfl,rfl⟩)
    go_round
    case rel=>exact⟨k+1,by omega,by go_num,by rw[HC.out];simp⟩
    case measure=>simp[intOf];omega
   ·generalize Lib.indexByte all48 (UInt8.ofNat k)=X at *
    have hq:decide (X<0)=false:=decide_eq_false (by omega)
    go_wp2_with (go_at_call 132;(with_reducible refine(HP.out _ (by simp;omega)).mono ?_);rintro e w' ⟨rfl,rfl⟩)
    go_round
    case rel=>exact⟨k+1,by omega,by go_num,by rw[HC.out,if_neg (by omega)];go_num⟩
    case measure=>simp[intOf];omega
  ·obtain rfl:k=n:=by omega
   go_wp2
   go_ret
   exact⟨rfl,rfl⟩
end Go.Proofs.YtahiajeggbpogaaGreatDoor
namespace Go.Proofs.YtahiajeggbpogaaGreatDoor
open Go.RowKit Hf
set_option linter.unusedVariables false
set_option linter.unusedSimpArgs false
namespace Hf
theorem take_next{xs:List UInt8}{k:Nat}{x:UInt8}(h:xs[k]? = some x):xs.take (k+1)=xs.take k++[x]:=by
 rw[List.take_add_one,h];rfl
theorem bl_take{xs:List UInt8}{k:Nat}{x:UInt8}(h:xs[k]? = some x):(bl (xs.take (k+1))).length=(bl (xs.take k)).length+mny x:=by
 rw[take_next h,bl_snoc,List.length_append,cbits_length]
theorem bl_take_le(xs:List UInt8)(k:Nat):(bl (xs.take k)).length≤11*k:=by
 have h1:=bl_le (xs.take k)
 have h2:(xs.take k).length≤k:=List.length_take_le _ _
 omega
end Hf
theorem h_bits(A:Option Addr)(n c:Nat)(xs:List UInt8)(w:World)(hR:Rws w)(hA:Bs w w.heap.size A n xs)(hn:n≤10000) :
  Calls Tryz.prog 110 #[.slice A n c] w fun e w'=>e = .returned (.int .i64 ((bl xs).length:Int))∧Below w.heap.size w w':=by
 have HR:=Lib.hid hR
 have HA:=Lib.hid hA
 clear hR hA
 go_enter Tryz.func110,Tryz.ntmps110
 go_wp2
 go_loopw [3,10] (fun s t wr=>∃k:Nat,k≤n∧t = .int .i64 (k:Int)∧s = .int .i64 ((bl (xs.take k)).length:Int)∧Below w.heap.size w wr) (fun _ t _=>n-(intOf t).toNat)
 case atStart=>exact⟨0,Nat.zero_le _,rfl,rfl,Below.refl _ _⟩
 case round=>
  obtain⟨k,hk,rfl,rfl,hbel⟩:=hrel
  have HB:=Lib.hid hbel
  have hle:=bl_take_le xs k
  clear hbel
  by_cases hlt:k<n
  ·obtain⟨b,o,rfl,hb,hc⟩:=bs_cell HA.out (by omega)
   obtain⟨x,hx,hcx⟩:=hc k hlt
   have hck:wr.cell? ⟨b,o+k,none⟩=some (.int .u8 (x.toNat:Int)):=(HB.out.cell (p:=⟨b,o+k,none⟩) hb).trans hcx
   have HT:=Lib.hid (bl_take hx)
   have hm:=mny_bd x
   have HR2:=Lib.hid (HR.out.on HB.out)
   clear hc hx hcx
   generalize (bl (xs.take k)).length=S at *
   go_wp2_with (go_at_call 127;(with_reducible refine(h_code x wr HR2.out).mono ?_);rintro e w1 ⟨rfl,hb1⟩;have HB1:=Lib.hid hb1;clear hb1)
   go_roundw
   case rel=>exact⟨k+1,by omega,by go_num,by rw[HT.out];go_num,HB.out.trans (HB1.out.mono HB.out.size)⟩
   case measure=>simp[intOf];omega
  ·obtain rfl:k=n:=by omega
   have ht:xs.take k=xs:=List.take_of_length_le (by rw[HA.out.1];exact Nat.le_refl _)
   have HT:=Lib.hid ht
   clear ht
   go_wp2
   go_ret
   exact⟨by(try rw[HT.out]);rfl,HB.out⟩
theorem h_size(A:Option Addr)(n c:Nat)(xs:List UInt8)(w:World)(hR:Rws w)(hA:Bs w w.heap.size A n xs)(hn:n≤10000) :
  Calls Tryz.prog 95 #[.slice A n c] w fun e w'=>e = .returned (.int .i64 ((((bl xs).length+7) / 8:Nat):Int))∧Below w.heap.size w w':=by
 have hle:=bl_le xs
 have hl:=hA.1
 have hle2:(bl xs).length≤110000:=by omega
 have h1:=h_bits A n c xs w hR hA hn
 have H1:=Lib.hid h1
 clear h1 hle hl hA hR
 generalize (bl xs).length=S at *
 go_enter Tryz.func95,Tryz.ntmps95
 go_wp2_with (go_at_call 110;(with_reducible refine H1.out.mono ?_);rintro e w1 ⟨rfl,hb1⟩;have HB1:=Lib.hid hb1;clear hb1)
 go_ret
 exact⟨ret_int (by omega),HB1.out⟩
theorem h_shorter(A:Option Addr)(n c:Nat)(xs:List UInt8)(w:World)(hR:Rws w)(hA:Bs w w.heap.size A n xs)(hn:n≤10000) :
  Calls Tryz.prog 74 #[.slice A n c] w fun e w'=>e = .returned (.bool (decide (((bl xs).length+7) / 8<n)))∧Below w.heap.size w w':=by
 have h1:=h_size A n c xs w hR hA hn
 have hle:=bl_le xs
 have hl:=hA.1
 have hle2:((bl xs).length+7) / 8≤110000:=by omega
 have H1:=Lib.hid h1
 clear h1 hle hl hA hR
 generalize ((bl xs).length+7) / 8=S at *
 go_enter Tryz.func74,Tryz.ntmps74
 go_wp2_with (go_at_call 95;(with_reducible refine H1.out.mono ?_);rintro e w1 ⟨rfl,hb1⟩;have HB1:=Lib.hid hb1;clear hb1)
 go_ret
 exact⟨rfl,HB1.out⟩
end Go.Proofs.YtahiajeggbpogaaGreatDoor
namespace Go.Proofs.YtahiajeggbpogaaGreatDoor
open Go.RowKit Hf Oct
set_option linter.unusedVariables false
set_option linter.unusedSimpArgs false
theorem r_code(c:UInt8)(X:Int)(w:World)(hX:X=(c.toNat:Int)) :
  Calls Tryz.prog 118 #[.int .u8 X] w fun e w'=>e = .returned (.tuple #[.int .i64 (cod c:Int),.int .i64 (mny c:Int)])∧w=w':=by
 subst hX
 have h3:=rowOf_le c
 have hmn:mny c=rowM (rowOf c):=rfl
 have hx:=ix_hit c
 have hge:=rowF_le c
 have hrng:=cod_range c
 have h4:rowOf c=0∨rowOf c=1∨rowOf c=2∨rowOf c=3:=by omega
 rcases h4 with he | he | he | he
 ·rw[he] at hmn hx hge
  obtain⟨X,hXc⟩ : ∃X:Nat,cod c=0+X:=⟨cod c-0,by simp only[rowF] at hge;omega⟩
  have hxx:Lib.indexByte (rowL 0) c=(X:Int):=by rw[hx,hXc,Int.natCast_add];simp only[rowF];omega
  have hX2:X<2000:=by omega
  have HP0:Hid (Calls Tryz.prog 132 #[.string { data:=#[45,47,48,49,50,51,97,99,101,105,110,111,114,115,116,117] },.int .u8 (c.toNat:Int)] w fun e w'=>e = .returned (.int .i64 (X:Int))∧w=w'):=Lib.hid (by rw[←hxx];exact r_place { data:=#[45,47,48,49,50,51,97,99,101,105,110,111,114,115,116,117] } c _ w (by decide) rfl)
  have HX:=Lib.hid hXc
  have HM:=Lib.hid hmn
  clear hxx hXc hmn hx hge hrng he h3
  go_enter Tryz.func118,Tryz.ntmps118
  go_wp2_with (first
   | (go_at_call 132;(with_reducible refine(HP0.out).mono ?_);rintro e w' ⟨rfl,rfl⟩))
  go_ret2
  exact⟨by rw[HX.out,HM.out];simp[rowM],rfl⟩
 ·rw[he] at hmn hx hge
  have m0:Lib.indexByte (rowL 0) c = -1:=ix_miss c (by omega) (by omega)
  obtain⟨X,hXc⟩ : ∃X:Nat,cod c=32+X:=⟨cod c-32,by simp only[rowF] at hge;omega⟩
  have hxx:Lib.indexByte (rowL 1) c=(X:Int):=by rw[hx,hXc,Int.natCast_add];simp only[rowF];omega
  have hX2:X<2000:=by omega
  have HP0:Hid (Calls Tryz.prog 132 #[.string { data:=#[45,47,48,49,50,51,97,99,101,105,110,111,114,115,116,117] },.int .u8 (c.toNat:Int)] w fun e w'=>e = .returned (.int .i64 (-1))∧w=w'):=Lib.hid (by rw[←m0];exact r_place { data:=#[45,47,48,49,50,51,97,99,101,105,110,111,114,115,116,117] } c _ w (by decide) rfl)
  have HP1:Hid (Calls Tryz.prog 132 #[.string { data:=#[46,52,53,54,55,56,57,58,98,100,102,103,104,108,109,112] },.int .u8 (c.toNat:Int)] w fun e w'=>e = .returned (.int .i64 (X:Int))∧w=w'):=Lib.hid (by rw[←hxx];exact r_place { data:=#[46,52,53,54,55,56,57,58,98,100,102,103,104,108,109,112] } c _ w (by decide) rfl)
  have HX:=Lib.hid hXc
  have HM:=Lib.hid hmn
  clear m0 hxx hXc hmn hx hge hrng he h3
  go_enter Tryz.func118,Tryz.ntmps118
  go_wp2_with (first
   | (go_at_call 132;(with_reducible refine(HP0.out).mono ?_);rintro e w' ⟨rfl,rfl⟩)
   | (go_at_call 132;(with_reducible refine(HP1.out).mono ?_);rintro e w' ⟨rfl,rfl⟩))
  go_ret2
  exact⟨by rw[HX.out,HM.out];simp[rowM],rfl⟩
 ·rw[he] at hmn hx hge
  have m0:Lib.indexByte (rowL 0) c = -1:=ix_miss c (by omega) (by omega)
  have m1:Lib.indexByte (rowL 1) c = -1:=ix_miss c (by omega) (by omega)
  obtain⟨X,hXc⟩ : ∃X:Nat,cod c=96+X:=⟨cod c-96,by simp only[rowF] at hge;omega⟩
  have hxx:Lib.indexByte (rowL 2) c=(X:Int):=by rw[hx,hXc,Int.natCast_add];simp only[rowF];omega
  have hX2:X<2000:=by omega
  have HP0:Hid (Calls Tryz.prog 132 #[.string { data:=#[45,47,48,49,50,51,97,99,101,105,110,111,114,115,116,117] },.int .u8 (c.toNat:Int)] w fun e w'=>e = .returned (.int .i64 (-1))∧w=w'):=Lib.hid (by rw[←m0];exact r_place { data:=#[45,47,48,49,50,51,97,99,101,105,110,111,114,115,116,117] } c _ w (by decide) rfl)
  have HP1:Hid (Calls Tryz.prog 132 #[.string { data:=#[46,52,53,54,55,56,57,58,98,100,102,103,104,108,109,112] },.int .u8 (c.toNat:Int)] w fun e w'=>e = .returned (.int .i64 (-1))∧w=w'):=Lib.hid (by rw[←m1];exact r_place { data:=#[46,52,53,54,55,56,57,58,98,100,102,103,104,108,109,112] } c _ w (by decide) rfl)
  have HP2:Hid (Calls Tryz.prog 132 #[.string { data:=#[65,66,67,68,69,70,71,72,106,107,113,118,119,120,121,122] },.int .u8 (c.toNat:Int)] w fun e w'=>e = .returned (.int .i64 (X:Int))∧w=w'):=Lib.hid (by rw[←hxx];exact r_place { data:=#[65,66,67,68,69,70,71,72,106,107,113,118,119,120,121,122] } c _ w (by decide) rfl)
  have HX:=Lib.hid hXc
  have HM:=Lib.hid hmn
  clear m0 m1 hxx hXc hmn hx hge hrng he h3
  go_enter Tryz.func118,Tryz.ntmps118
  go_wp2_with (first
   | (go_at_call 132;(with_reducible refine(HP0.out).mono ?_);rintro e w' ⟨rfl,rfl⟩)
   | (go_at_call 132;(with_reducible refine(HP1.out).mono ?_);rintro e w' ⟨rfl,rfl⟩)
   | (go_at_call 132;(with_reducible refine(HP2.out).mono ?_);rintro e w' ⟨rfl,rfl⟩))
  go_ret2
  exact⟨by rw[HX.out,HM.out];simp[rowM],rfl⟩
 ·rw[he] at hmn hx hge
  have m0:Lib.indexByte (rowL 0) c = -1:=ix_miss c (by omega) (by omega)
  have m1:Lib.indexByte (rowL 1) c = -1:=ix_miss c (by omega) (by omega)
  have m2:Lib.indexByte (rowL 2) c = -1:=ix_miss c (by omega) (by omega)
  obtain⟨X,hXc⟩ : ∃X:Nat,cod c=1792+X:=⟨cod c-1792,by simp only[rowF] at hge;omega⟩
  have HP0:Hid (Calls Tryz.prog 132 #[.string { data:=#[45,47,48,49,50,51,97,99,101,105,110,111,114,115,116,117] },.int .u8 (c.toNat:Int)] w fun e w'=>e = .returned (.int .i64 (-1))∧w=w'):=Lib.hid (by rw[←m0];exact r_place { data:=#[45,47,48,49,50,51,97,99,101,105,110,111,114,115,116,117] } c _ w (by decide) rfl)
  have HP1:Hid (Calls Tryz.prog 132 #[.string { data:=#[46,52,53,54,55,56,57,58,98,100,102,103,104,108,109,112] },.int .u8 (c.toNat:Int)] w fun e w'=>e = .returned (.int .i64 (-1))∧w=w'):=Lib.hid (by rw[←m1];exact r_place { data:=#[46,52,53,54,55,56,57,58,98,100,102,103,104,108,109,112] } c _ w (by decide) rfl)
  have HP2:Hid (Calls Tryz.prog 132 #[.string { data:=#[65,66,67,68,69,70,71,72,106,107,113,118,119,120,121,122] },.int .u8 (c.toNat:Int)] w fun e w'=>e = .returned (.int .i64 (-1))∧w=w'):=Lib.hid (by rw[←m2];exact r_place { data:=#[65,66,67,68,69,70,71,72,106,107,113,118,119,120,121,122] } c _ w (by decide) rfl)
  have hcn:=all_bytes (p:=fun c=>rowOf c=3→cod c=1792+cnt c.toNat) (fun n h=>by have:=cnt_codF n h;rw[this];simp) c he
  have hX3:cnt c.toNat=X:=by omega
  have hX2:X<2000:=by omega
  have HO:Hid (Calls Tryz.prog 133 #[.int .u8 (c.toNat:Int)] w fun e w'=>e = .returned (.int .i64 (X:Int))∧w=w'):=Lib.hid (by rw[←hX3];exact r_others c.toNat w (by have:=c.toNat_lt;omega))
  have HX:=Lib.hid hXc
  have HM:=Lib.hid hmn
  clear m0 m1 m2 hcn hX3 hXc hmn hx hge hrng he h3
  go_enter Tryz.func118,Tryz.ntmps118
  go_wp2_with (first
   | (go_at_call 132;(with_reducible refine(HP0.out).mono ?_);rintro e w' ⟨rfl,rfl⟩)
   | (go_at_call 132;(with_reducible refine(HP1.out).mono ?_);rintro e w' ⟨rfl,rfl⟩)
   | (go_at_call 132;(with_reducible refine(HP2.out).mono ?_);rintro e w' ⟨rfl,rfl⟩)
   | (go_at_call 133;(with_reducible refine HO.out.mono ?_);rintro e w' ⟨rfl,rfl⟩))
  go_ret2
  exact⟨by rw[HX.out,HM.out];simp[rowM],rfl⟩
theorem r_of(code many:Int)(w:World) :
  Calls Tryz.prog 151 #[.int .i64 code,.int .i64 many] w fun e w'=>e = .returned (.tuple #[.int .u8 (fnV code many),.bool (fnS code many)])∧w=w':=by
 go_enter Tryz.func151,Tryz.ntmps151
 go_wp2
 go_loop [6] (fun t=>∃k:Nat,k≤256∧t = .int .i64 (k:Int)∧∀j,j<k→¬(code=(cod (UInt8.ofNat j):Int)∧many=(mny (UInt8.ofNat j):Int))) (fun t=>256-(intOf t).toNat)
 case atStart=>exact⟨0,Nat.zero_le _,rfl,fun j hj=>absurd hj (Nat.not_lt_zero _)⟩
 case round=>
  obtain⟨k,hk,rfl,hno⟩:=hrel
  have HN:=Lib.hid hno
  clear hno
  by_cases hlt:k<256
  ·have hkn:(((UInt8.ofNat k).toNat:Nat):Int)=(k:Int):=by simp;omega
   have HKN:=Lib.hid hkn
   have HP:=Lib.hid (r_code (UInt8.ofNat k) (k:Int) w hkn.symm)
   clear hkn
   by_cases hh:code=(cod (UInt8.ofNat k):Int)∧many=(mny (UInt8.ofNat k):Int)
   ·have hf:=find_iff.2 hh
    have hV:fnV code many=(k:Int):=by unfold fnV;rw[hf];exact HKN.out
    have hS:fnS code many=true:=by unfold fnS;rw[hf];rfl
    have HV:=Lib.hid hV
    have HS:=Lib.hid hS
    obtain⟨rfl,rfl⟩:=hh
    clear hf hV hS
    generalize cod (UInt8.ofNat k)=C at HP ⊢
    generalize mny (UInt8.ofNat k)=M at HP ⊢
    go_wp2_with (go_at_call 118;(with_reducible refine HP.out.mono ?_);rintro e w' ⟨rfl,rfl⟩)
    go_ret2
    exact⟨by rw[HV.out,HS.out];first | rfl | (congr 3;omega),rfl⟩
   ·have HH:=Lib.hid hh
    generalize hCC:cod (UInt8.ofNat k)=C at *
    generalize hMM:mny (UInt8.ofNat k)=M at *
    have HC:=Lib.hid hCC
    have HM:=Lib.hid hMM
    by_cases h1:(C:Int)=code
    ·have q1:((C:Int)==code)=true:=by simpa using h1
     have q2:((M:Int)==many)=false:=by
      simp only[beq_eq_false_iff_ne,ne_eq]
      intro e
      exact hh ⟨h1.symm,e.symm⟩
     clear hh h1 hCC hMM
     go_wp2_with (go_at_call 118;(with_reducible refine HP.out.mono ?_);rintro e w' ⟨rfl,rfl⟩)
     go_round
     case rel=>exact⟨k+1,by omega,by go_num,fun j hj=>by
      by_cases h:j<k
      ·exact HN.out j h
      ·obtain rfl:j=k:=by omega
       rw[HC.out,HM.out]
       exact HH.out⟩
     case measure=>simp[intOf];omega
    ·have q1:((C:Int)==code)=false:=by simpa using h1
     clear hh h1 hCC hMM
     go_wp2_with (go_at_call 118;(with_reducible refine HP.out.mono ?_);rintro e w' ⟨rfl,rfl⟩)
     go_round
     case rel=>exact⟨k+1,by omega,by go_num,fun j hj=>by
      by_cases h:j<k
      ·exact HN.out j h
      ·obtain rfl:j=k:=by omega
       rw[HC.out,HM.out]
       exact HH.out⟩
     case measure=>simp[intOf];omega
  ·obtain rfl:k=256:=by omega
   have hf:findN code many=none:=by
    cases hq:findN code many with
    | none=>rfl
    | some c=>
     have h1:=find_iff.1 hq
     have h2:UInt8.ofNat c.toNat=c:=by simp
     exact absurd (by rw[h2];exact h1) (HN.out c.toNat (by have:=c.toNat_lt;omega))
   have HV:Hid (fnV code many=0):=Lib.hid (by unfold fnV;rw[hf])
   have HS:Hid (fnS code many=false):=Lib.hid (by unfold fnS;rw[hf];rfl)
   clear hf
   go_wp2
   go_ret2
   exact⟨by rw[HV.out,HS.out];rfl,rfl⟩
theorem r_bits(A:Option Addr)(B n c:Nat)(xs:List UInt8)(w:World)(hA:Bs w B A n xs)(hn:n≤10000) :
  Calls Tryz.prog 99 #[.slice A n c] w fun e w'=>e = .returned (.int .i64 ((bl xs).length:Int))∧w=w':=by
 have HA:=Lib.hid hA
 clear hA
 go_enter Tryz.func99,Tryz.ntmps99
 go_wp2
 go_loop [3,4] (fun s t=>∃k:Nat,k≤n∧t = .int .i64 (k:Int)∧s = .int .i64 ((bl (xs.take k)).length:Int)) (fun _ t=>n-(intOf t).toNat)
 case atStart=>exact⟨0,Nat.zero_le _,rfl,rfl⟩
 case round=>
  obtain⟨k,hk,rfl,rfl⟩:=hrel
  have hle:=bl_take_le xs k
  by_cases hlt:k<n
  ·obtain⟨b,o,rfl,hb,hc⟩:=bs_cell HA.out (by omega)
   obtain⟨x,hx,hcx⟩:=hc k hlt
   have HT:=Lib.hid (bl_take hx)
   have hm:=mny_bd x
   clear hc hx
   generalize (bl (xs.take k)).length=S at *
   go_wp2_with (go_at_call 118;(with_reducible refine(r_code x _ w rfl).mono ?_);rintro e w1 ⟨rfl,rfl⟩)
   go_round
   case rel=>exact⟨k+1,by omega,by go_num,by rw[HT.out];go_num⟩
   case measure=>simp[intOf];omega
  ·obtain rfl:k=n:=by omega
   have ht:xs.take k=xs:=List.take_of_length_le (by rw[HA.out.1];exact Nat.le_refl _)
   have HT:=Lib.hid ht
   clear ht
   go_wp2
   go_ret
   exact⟨by(try rw[HT.out]);rfl,rfl⟩
theorem r_shorter(A:Option Addr)(B n c:Nat)(xs:List UInt8)(w:World)(hA:Bs w B A n xs)(hn:n≤10000) :
  Calls Tryz.prog 77 #[.slice A n c] w fun e w'=>e = .returned (.bool (decide (((bl xs).length+7) / 8<n)))∧w=w':=by
 have h1:=r_bits A B n c xs w hA hn
 have hle:=bl_le xs
 have hl:=hA.1
 have hle2:(bl xs).length≤110000:=by omega
 have H1:=Lib.hid h1
 clear h1 hle hl hA
 generalize (bl xs).length=S at *
 have HD:=Lib.hid (show decide (((S:Int)+7) / 8<(n:Int))=decide ((S+7) / 8<n) from decide_eq_decide.2 (by omega))
 go_enter Tryz.func77,Tryz.ntmps77
 go_wp2_with (go_at_call 99;(with_reducible refine H1.out.mono ?_);rintro e w1 ⟨rfl,rfl⟩)
 go_ret
 exact⟨by rw[←HD.out];rfl,rfl⟩
end Go.Proofs.YtahiajeggbpogaaGreatDoor
namespace Go.Proofs.YtahiajeggbpogaaGreatDoor
open Go.RowKit Hf Oct
set_option linter.unusedVariables false
set_option linter.unusedSimpArgs false
theorem r_next(A:Option Addr)(n c at_:Nat)(xs:List UInt8)(w:World)(hA:Bs w w.heap.size A n xs)(hn:n≤10000)(ha:at_≤8*n) :
  Calls Tryz.prog 141 #[.slice A n c,.int .i64 (at_:Int)] w fun e w'=>e = .returned (.tuple #[.int .u8 ((nextN xs at_).1.toNat:Int),.int .i64 ((nextN xs at_).2:Int)])∧Below w.heap.size w w':=by
 have HB1:=Lib.hid ((Below.refl _ w).alloc (Nat.le_refl _) (.cells #[.int .i64 5,.int .i64 6,.int .i64 7,.int .i64 11] 171))
 have HA1:=Lib.hid (hA.on HB1.out)
 have HLEN:=Lib.hid hA.1
 clear hA
 go_enter Tryz.func141,Tryz.ntmps141
 go_wp2
 go_loop [7] (fun t=>∃k:Nat,k≤4∧t = .int .i64 (k:Int)∧(∀j,j<k→tryL xs at_ (rowM j)=none)) (fun t=>4-(intOf t).toNat)
 case atStart=>exact⟨0,Nat.zero_le _,rfl,fun j hj=>absurd hj (Nat.not_lt_zero _)⟩
 case round=>
  obtain⟨k,hk,rfl,hno⟩:=hrel
  have HNO:=Lib.hid hno
  have hk4:k=0∨k=1∨k=2∨k=3∨k=4:=by omega
  clear hno
  obtain rfl | rfl | rfl | rfl | rfl:=hk4
  ·by_cases hin:at_+5≤8*n
   ·have HY:Hid (∀W,Bs W W.heap.size A n xs→Calls Tryz.prog 142 #[.slice A n c,.int .i64 (at_:Int),.int .i64 5] W fun e w'=>e = .returned (.tuple #[.int .i64 (codeOf xs at_ 5:Int),.bool true])∧W=w'):=Lib.hid fun W hW=>by
     have h:=rbits_yes A _ n c xs (at_:Int) 5 W hW (by omega) (by omega) (by omega) (by omega) (by omega)
     simpa using h
    have hcl:=codeOf_lt xs at_ 5
    have ht:=try_in (xs:=xs) (a:=at_) (l:=5) (by rw[HLEN.out];exact hin)
    generalize codeOf xs at_ 5=C at *
    have HY2:=Lib.hid (HY.out _ HA1.out)
    cases hf:findN (C:Int) 5 with
    | some d=>
     have HN:=Lib.hid (next_hit (k:=0) (by omega) HNO.out (ht.trans hf))
     have HFD:Hid (∀W,Calls Tryz.prog 151 #[.int .i64 (C:Int),.int .i64 5] W fun e w'=>e = .returned (.tuple #[.int .u8 (d.toNat:Int),.bool true])∧W=w'):=Lib.hid fun W=>by
      have h:=r_of (C:Int) 5 W
      have e1:fnV (C:Int) 5=(d.toNat:Int):=by unfold fnV;rw[hf]
      have e2:fnS (C:Int) 5=true:=by unfold fnS;rw[hf];rfl
      rw[e1,e2] at h
      exact h
     clear ht hf hcl hin
     go_wp2_with (first
      | (go_at_call 142;(with_reducible refine HY2.out.mono ?_);rintro e w1 ⟨rfl,rfl⟩)
      | (go_at_call 151;(with_reducible refine(HFD.out (w.alloc (.cells #[.int .i64 5,.int .i64 6,.int .i64 7,.int .i64 11] 171))).mono ?_);rintro e w2 ⟨rfl,rfl⟩))
     go_quiet (fail)
     go_wp2
     go_ret2
     exact⟨by rw[HN.out];rfl,below_dN HB1.out _⟩
    | none=>
     have HTN:=Lib.hid (ht.trans hf)
     have HFD:Hid (∀W,Calls Tryz.prog 151 #[.int .i64 (C:Int),.int .i64 5] W fun e w'=>e = .returned (.tuple #[.int .u8 0,.bool false])∧W=w'):=Lib.hid fun W=>by
      have h:=r_of (C:Int) 5 W
      have e1:fnV (C:Int) 5=0:=by unfold fnV;rw[hf]
      have e2:fnS (C:Int) 5=false:=by unfold fnS;rw[hf];rfl
      rw[e1,e2] at h
      exact h
     clear ht hf hcl hin
     go_wp2_with (first
      | (go_at_call 142;(with_reducible refine HY2.out.mono ?_);rintro e w1 ⟨rfl,rfl⟩)
      | (go_at_call 151;(with_reducible refine(HFD.out (w.alloc (.cells #[.int .i64 5,.int .i64 6,.int .i64 7,.int .i64 11] 171))).mono ?_);rintro e w2 ⟨rfl,rfl⟩))
     go_round
     case rel=>exact⟨1,by omega,rfl,fun j hj=>by
      by_cases h:j<0
      ·exact HNO.out j h
      ·obtain rfl:j=0:=by omega
       exact HTN.out⟩
     case measure=>simp[intOf]
   ·have HN:=Lib.hid (next_out (k:=0) (by omega) HNO.out (by rw[HLEN.out];simp only[rowM];omega))
    have HY:Hid (∀W,Calls Tryz.prog 142 #[.slice A n c,.int .i64 (at_:Int),.int .i64 5] W fun e w'=>e = .returned (.tuple #[.int .i64 0,.bool false])∧W=w'):=Lib.hid fun W=>
     rbits_none A n c (at_:Int) 5 W (by omega) (by omega)
    clear hin
    go_wp2_with (go_at_call 142;(with_reducible refine(HY.out (w.alloc (.cells #[.int .i64 5,.int .i64 6,.int .i64 7,.int .i64 11] 171))).mono ?_);rintro e w1 ⟨rfl,rfl⟩)
    go_ret2
    exact⟨by rw[HN.out];rfl,HB1.out⟩
  ·by_cases hin:at_+6≤8*n
   ·have HY:Hid (∀W,Bs W W.heap.size A n xs→Calls Tryz.prog 142 #[.slice A n c,.int .i64 (at_:Int),.int .i64 6] W fun e w'=>e = .returned (.tuple #[.int .i64 (codeOf xs at_ 6:Int),.bool true])∧W=w'):=Lib.hid fun W hW=>by
     have h:=rbits_yes A _ n c xs (at_:Int) 6 W hW (by omega) (by omega) (by omega) (by omega) (by omega)
     simpa using h
    have hcl:=codeOf_lt xs at_ 6
    have ht:=try_in (xs:=xs) (a:=at_) (l:=6) (by rw[HLEN.out];exact hin)
    generalize codeOf xs at_ 6=C at *
    have HY2:=Lib.hid (HY.out _ HA1.out)
    cases hf:findN (C:Int) 6 with
    | some d=>
     have HN:=Lib.hid (next_hit (k:=1) (by omega) HNO.out (ht.trans hf))
     have HFD:Hid (∀W,Calls Tryz.prog 151 #[.int .i64 (C:Int),.int .i64 6] W fun e w'=>e = .returned (.tuple #[.int .u8 (d.toNat:Int),.bool true])∧W=w'):=Lib.hid fun W=>by
      have h:=r_of (C:Int) 6 W
      have e1:fnV (C:Int) 6=(d.toNat:Int):=by unfold fnV;rw[hf]
      have e2:fnS (C:Int) 6=true:=by unfold fnS;rw[hf];rfl
      rw[e1,e2] at h
      exact h
     clear ht hf hcl hin
     go_wp2_with (first
      | (go_at_call 142;(with_reducible refine HY2.out.mono ?_);rintro e w1 ⟨rfl,rfl⟩)
      | (go_at_call 151;(with_reducible refine(HFD.out (w.alloc (.cells #[.int .i64 5,.int .i64 6,.int .i64 7,.int .i64 11] 171))).mono ?_);rintro e w2 ⟨rfl,rfl⟩))
     go_quiet (fail)
     go_wp2
     go_ret2
     exact⟨by rw[HN.out];rfl,below_dN HB1.out _⟩
    | none=>
     have HTN:=Lib.hid (ht.trans hf)
     have HFD:Hid (∀W,Calls Tryz.prog 151 #[.int .i64 (C:Int),.int .i64 6] W fun e w'=>e = .returned (.tuple #[.int .u8 0,.bool false])∧W=w'):=Lib.hid fun W=>by
      have h:=r_of (C:Int) 6 W
      have e1:fnV (C:Int) 6=0:=by unfold fnV;rw[hf]
      have e2:fnS (C:Int) 6=false:=by unfold fnS;rw[hf];rfl
      rw[e1,e2] at h
      exact h
     clear ht hf hcl hin
     go_wp2_with (first
      | (go_at_call 142;(with_reducible refine HY2.out.mono ?_);rintro e w1 ⟨rfl,rfl⟩)
      | (go_at_call 151;(with_reducible refine(HFD.out (w.alloc (.cells #[.int .i64 5,.int .i64 6,.int .i64 7,.int .i64 11] 171))).mono ?_);rintro e w2 ⟨rfl,rfl⟩))
     go_round
     case rel=>exact⟨2,by omega,rfl,fun j hj=>by
      by_cases h:j<1
      ·exact HNO.out j h
      ·obtain rfl:j=1:=by omega
       exact HTN.out⟩
     case measure=>simp[intOf]
   ·have HN:=Lib.hid (next_out (k:=1) (by omega) HNO.out (by rw[HLEN.out];simp only[rowM];omega))
    have HY:Hid (∀W,Calls Tryz.prog 142 #[.slice A n c,.int .i64 (at_:Int),.int .i64 6] W fun e w'=>e = .returned (.tuple #[.int .i64 0,.bool false])∧W=w'):=Lib.hid fun W=>
     rbits_none A n c (at_:Int) 6 W (by omega) (by omega)
    clear hin
    go_wp2_with (go_at_call 142;(with_reducible refine(HY.out (w.alloc (.cells #[.int .i64 5,.int .i64 6,.int .i64 7,.int .i64 11] 171))).mono ?_);rintro e w1 ⟨rfl,rfl⟩)
    go_ret2
    exact⟨by rw[HN.out];rfl,HB1.out⟩
  ·by_cases hin:at_+7≤8*n
   ·have HY:Hid (∀W,Bs W W.heap.size A n xs→Calls Tryz.prog 142 #[.slice A n c,.int .i64 (at_:Int),.int .i64 7] W fun e w'=>e = .returned (.tuple #[.int .i64 (codeOf xs at_ 7:Int),.bool true])∧W=w'):=Lib.hid fun W hW=>by
     have h:=rbits_yes A _ n c xs (at_:Int) 7 W hW (by omega) (by omega) (by omega) (by omega) (by omega)
     simpa using h
    have hcl:=codeOf_lt xs at_ 7
    have ht:=try_in (xs:=xs) (a:=at_) (l:=7) (by rw[HLEN.out];exact hin)
    generalize codeOf xs at_ 7=C at *
    have HY2:=Lib.hid (HY.out _ HA1.out)
    cases hf:findN (C:Int) 7 with
    | some d=>
     have HN:=Lib.hid (next_hit (k:=2) (by omega) HNO.out (ht.trans hf))
     have HFD:Hid (∀W,Calls Tryz.prog 151 #[.int .i64 (C:Int),.int .i64 7] W fun e w'=>e = .returned (.tuple #[.int .u8 (d.toNat:Int),.bool true])∧W=w'):=Lib.hid fun W=>by
      have h:=r_of (C:Int) 7 W
      have e1:fnV (C:Int) 7=(d.toNat:Int):=by unfold fnV;rw[hf]
      have e2:fnS (C:Int) 7=true:=by unfold fnS;rw[hf];rfl
      rw[e1,e2] at h
      exact h
     clear ht hf hcl hin
     go_wp2_with (first
      | (go_at_call 142;(with_reducible refine HY2.out.mono ?_);rintro e w1 ⟨rfl,rfl⟩)
      | (go_at_call 151;(with_reducible refine(HFD.out (w.alloc (.cells #[.int .i64 5,.int .i64 6,.int .i64 7,.int .i64 11] 171))).mono ?_);rintro e w2 ⟨rfl,rfl⟩))
     go_quiet (fail)
     go_wp2
     go_ret2
     exact⟨by rw[HN.out];rfl,below_dN HB1.out _⟩
    | none=>
     have HTN:=Lib.hid (ht.trans hf)
     have HFD:Hid (∀W,Calls Tryz.prog 151 #[.int .i64 (C:Int),.int .i64 7] W fun e w'=>e = .returned (.tuple #[.int .u8 0,.bool false])∧W=w'):=Lib.hid fun W=>by
      have h:=r_of (C:Int) 7 W
      have e1:fnV (C:Int) 7=0:=by unfold fnV;rw[hf]
      have e2:fnS (C:Int) 7=false:=by unfold fnS;rw[hf];rfl
      rw[e1,e2] at h
      exact h
     clear ht hf hcl hin
     go_wp2_with (first
      | (go_at_call 142;(with_reducible refine HY2.out.mono ?_);rintro e w1 ⟨rfl,rfl⟩)
      | (go_at_call 151;(with_reducible refine(HFD.out (w.alloc (.cells #[.int .i64 5,.int .i64 6,.int .i64 7,.int .i64 11] 171))).mono ?_);rintro e w2 ⟨rfl,rfl⟩))
     go_round
     case rel=>exact⟨3,by omega,rfl,fun j hj=>by
      by_cases h:j<2
      ·exact HNO.out j h
      ·obtain rfl:j=2:=by omega
       exact HTN.out⟩
     case measure=>simp[intOf]
   ·have HN:=Lib.hid (next_out (k:=2) (by omega) HNO.out (by rw[HLEN.out];simp only[rowM];omega))
    have HY:Hid (∀W,Calls Tryz.prog 142 #[.slice A n c,.int .i64 (at_:Int),.int .i64 7] W fun e w'=>e = .returned (.tuple #[.int .i64 0,.bool false])∧W=w'):=Lib.hid fun W=>
     rbits_none A n c (at_:Int) 7 W (by omega) (by omega)
    clear hin
    go_wp2_with (go_at_call 142;(with_reducible refine(HY.out (w.alloc (.cells #[.int .i64 5,.int .i64 6,.int .i64 7,.int .i64 11] 171))).mono ?_);rintro e w1 ⟨rfl,rfl⟩)
    go_ret2
    exact⟨by rw[HN.out];rfl,HB1.out⟩
  ·by_cases hin:at_+11≤8*n
   ·have HY:Hid (∀W,Bs W W.heap.size A n xs→Calls Tryz.prog 142 #[.slice A n c,.int .i64 (at_:Int),.int .i64 11] W fun e w'=>e = .returned (.tuple #[.int .i64 (codeOf xs at_ 11:Int),.bool true])∧W=w'):=Lib.hid fun W hW=>by
     have h:=rbits_yes A _ n c xs (at_:Int) 11 W hW (by omega) (by omega) (by omega) (by omega) (by omega)
     simpa using h
    have hcl:=codeOf_lt xs at_ 11
    have ht:=try_in (xs:=xs) (a:=at_) (l:=11) (by rw[HLEN.out];exact hin)
    generalize codeOf xs at_ 11=C at *
    have HY2:=Lib.hid (HY.out _ HA1.out)
    cases hf:findN (C:Int) 11 with
    | some d=>
     have HN:=Lib.hid (next_hit (k:=3) (by omega) HNO.out (ht.trans hf))
     have HFD:Hid (∀W,Calls Tryz.prog 151 #[.int .i64 (C:Int),.int .i64 11] W fun e w'=>e = .returned (.tuple #[.int .u8 (d.toNat:Int),.bool true])∧W=w'):=Lib.hid fun W=>by
      have h:=r_of (C:Int) 11 W
      have e1:fnV (C:Int) 11=(d.toNat:Int):=by unfold fnV;rw[hf]
      have e2:fnS (C:Int) 11=true:=by unfold fnS;rw[hf];rfl
      rw[e1,e2] at h
      exact h
     clear ht hf hcl hin
     go_wp2_with (first
      | (go_at_call 142;(with_reducible refine HY2.out.mono ?_);rintro e w1 ⟨rfl,rfl⟩)
      | (go_at_call 151;(with_reducible refine(HFD.out (w.alloc (.cells #[.int .i64 5,.int .i64 6,.int .i64 7,.int .i64 11] 171))).mono ?_);rintro e w2 ⟨rfl,rfl⟩))
     go_quiet (fail)
     go_wp2
     go_ret2
     exact⟨by rw[HN.out];rfl,below_dN HB1.out _⟩
    | none=>
     have HTN:=Lib.hid (ht.trans hf)
     have HFD:Hid (∀W,Calls Tryz.prog 151 #[.int .i64 (C:Int),.int .i64 11] W fun e w'=>e = .returned (.tuple #[.int .u8 0,.bool false])∧W=w'):=Lib.hid fun W=>by
      have h:=r_of (C:Int) 11 W
      have e1:fnV (C:Int) 11=0:=by unfold fnV;rw[hf]
      have e2:fnS (C:Int) 11=false:=by unfold fnS;rw[hf];rfl
      rw[e1,e2] at h
      exact h
     clear ht hf hcl hin
     go_wp2_with (first
      | (go_at_call 142;(with_reducible refine HY2.out.mono ?_);rintro e w1 ⟨rfl,rfl⟩)
      | (go_at_call 151;(with_reducible refine(HFD.out (w.alloc (.cells #[.int .i64 5,.int .i64 6,.int .i64 7,.int .i64 11] 171))).mono ?_);rintro e w2 ⟨rfl,rfl⟩))
     go_round
     case rel=>exact⟨4,by omega,rfl,fun j hj=>by
      by_cases h:j<3
      ·exact HNO.out j h
      ·obtain rfl:j=3:=by omega
       exact HTN.out⟩
     case measure=>simp[intOf]
   ·have HN:=Lib.hid (next_out (k:=3) (by omega) HNO.out (by rw[HLEN.out];simp only[rowM];omega))
    have HY:Hid (∀W,Calls Tryz.prog 142 #[.slice A n c,.int .i64 (at_:Int),.int .i64 11] W fun e w'=>e = .returned (.tuple #[.int .i64 0,.bool false])∧W=w'):=Lib.hid fun W=>
     rbits_none A n c (at_:Int) 11 W (by omega) (by omega)
    clear hin
    go_wp2_with (go_at_call 142;(with_reducible refine(HY.out (w.alloc (.cells #[.int .i64 5,.int .i64 6,.int .i64 7,.int .i64 11] 171))).mono ?_);rintro e w1 ⟨rfl,rfl⟩)
    go_ret2
    exact⟨by rw[HN.out];rfl,HB1.out⟩
  ·have HN:=Lib.hid (next_none HNO.out)
   go_wp2
   go_ret2
   exact⟨by rw[HN.out];rfl,HB1.out⟩
end Go.Proofs.YtahiajeggbpogaaGreatDoor
namespace Go.Proofs.YtahiajeggbpogaaGreatDoor
open Go.RowKit Hf Go.Shelf Oct
set_option linter.unusedVariables false
set_option linter.unusedSimpArgs false
attribute [local go_sem] Oper.semAt_some
namespace Hf
theorem rws_keep{p:Nat→Prop}{W W':World}(h:Rws W)(hk:KeepC p W W')(hp:p 6):Rws W':=fun j v hj=>hk.cell (a:=⟨6,j,none⟩) hp (h j v hj)
theorem bl_take_len(xs:List UInt8)(k:Nat):(bl (xs.take k)).length≤(bl xs).length:=by
 have h:bl xs=bl (xs.take k)++bl (xs.drop k):=by rw[←bl_append,List.take_append_drop]
 rw[h,List.length_append]
 omega
theorem byte_of(C u:Nat):((UInt8.ofNat (C / 2 ^ u)).toNat:Int)=(C:Int) / 2 ^ u % 256:=by
 have h:(UInt8.ofNat (C / 2 ^ u)).toNat=C / 2 ^ u % 256:=by simp
 rw[h,Int.natCast_emod,Int.natCast_ediv,Int.natCast_pow]
 rfl
theorem wrap64_small{x:Int}(h : -9223372036854775808≤x)(h2:x≤9223372036854775807):wrap64 x=x:=IntWalk.wrap64_in _ ⟨by omega,by omega⟩
def KeepZ(p:Nat→Prop)(A B:World):Prop:=KeepC p A B∧A.heap.size≤B.heap.size
theorem KeepZ.refl(p:Nat→Prop)(A:World):KeepZ p A A:=⟨KeepC.refl _ _,Nat.le_refl _⟩
theorem KeepZ.trans{p:Nat→Prop}{A B C:World}(h:KeepZ p A B)(k:KeepZ p B C):KeepZ p A C:=⟨h.1.trans k.1,Nat.le_trans h.2 k.2⟩
theorem KeepZ.below{p:Nat→Prop}{A B:World}(h:Below A.heap.size A B):KeepZ p A B:=⟨KeepC.below h,h.size⟩
theorem or_code(a m cd:Nat)(ha:a<128)(hm:m≤11)(hc:cd<2 ^ m):Go.bits .or .i64 (wrap64 ((a:Int)*2 ^ m)) (cd:Int)=((a*2 ^ m+cd:Nat):Int):=by
 have hp:2 ^ m≤2 ^ 11:=Nat.pow_le_pow_right (by decide) hm
 have h1:a*2 ^ m≤128*2 ^ 11:=Nat.mul_le_mul (by omega) hp
 have e1:(a:Int)*2 ^ m=((a*2 ^ m:Nat):Int):=by rw[Int.natCast_mul,Int.natCast_pow];rfl
 have e2:(a:Int)*((2 ^ m:Nat):Int)=((a*2 ^ m:Nat):Int):=by rw[Int.natCast_mul]
 rw[e1,wrap64_small (by omega) (by omega),←e2,i64_or_join a cd m hc (by omega),e2,Int.natCast_add]
theorem pow_int(v:Nat):(2:Int) ^ v=((2 ^ v:Nat):Int):=by rw[Int.natCast_pow];rfl
theorem ones_val(v:Nat)(hv:v≤8):wrap64 (wrap64 (2 ^ v)-1)=((2 ^ v-1:Nat):Int):=by
 have h1:(2:Nat) ^ v≤2 ^ 8:=Nat.pow_le_pow_right (by decide) hv
 have h0:=Nat.two_pow_pos v
 rw[pow_int]
 generalize 2 ^ v=z at *
 have hz:wrap64 (z:Int)=(z:Int):=wrap64_small (by omega) (by omega)
 rw[hz,wrap64_small (by omega) (by omega)]
 omega
theorem mask_code(C v:Nat)(hv:v<8):Go.bits .and .i64 (C:Int) (wrap64 (wrap64 (2 ^ v)-1))=((C % 2 ^ v:Nat):Int):=by
 have h1:(2:Nat) ^ v≤2 ^ 8:=Nat.pow_le_pow_right (by decide) (by omega)
 have h0:=Nat.two_pow_pos v
 rw[ones_val v (by omega),i64_and_mask _ _ v (by omega) (by rw[BitVec.ofInt_natCast,BitVec.toNat_ofNat];exact Nat.mod_eq_of_lt (by omega)),Int.natCast_emod]
theorem fill_code(a f:Nat)(ha:a<128)(hf:f≤8):IntKind.u8.wrap (Go.bits .or .i64 (IntKind.i64.wrap ((a:Int)*2 ^ f)) (IntKind.i64.wrap (IntKind.i64.wrap (2 ^ f)-1)))=((UInt8.ofNat (a*2 ^ f+(2 ^ f-1))).toNat:Int):=by
 have h0:=Nat.two_pow_pos f
 have h1:=ones_val f hf
 have h2:=or_code a f (2 ^ f-1) ha (by omega) (by omega)
 have h3:(UInt8.ofNat (a*2 ^ f+(2 ^ f-1))).toNat=(a*2 ^ f+(2 ^ f-1)) % 256:=by simp
 have ew : ∀x,IntKind.i64.wrap x=wrap64 x:=fun x=>by rw[IntKind.wrap_i64,wrap64]
 rw[ew,ew,ew,h1,h2,h3,Int.natCast_emod]
 simp[IntKind.wrap,IntKind.bits,IntKind.signed]
end Hf
theorem packed1_in(k:Nat)(hk:1≤k)(l B1 n c:Nat)(A:Option Addr)(xs:List UInt8)(p:Nat→Prop)(J:List UInt8→World→Prop)(W:World)(hJ:AbidesFrom W.heap.size J)(hR:Rws W)
  (hp0:p 6) (hp1:p B1) (hpA:0<n→∀b o,A=some ⟨b,o,none⟩→p b) (hn:n≤10000)
  (hY : ∀pre (x:UInt8) W1,J pre W1→pre.length<((bl xs).length+7) / 8→YieldAt Fence.wide (k-1) Tryz.prog l #[.int .u8 (x.toNat:Int)] W1 fun e W'=>e = .returned (.bool true)∧J (pre++[x]) W'∧KeepZ p W1 W')
  (hc:W.cell? ⟨B1,0,none⟩=some (.slice A n c)) (hA:Bs W W.heap.size A n xs) (h0:J [] W) :
  CallsIn Fence.wide k Tryz.prog 144 #[.func (.yield l) #[] #[],.pointer (some ⟨B1,0,none⟩)] W fun e W'=>(∃v,e = .returned v)∧∃ys,IsPut (bl xs) ys∧J ys W':=by
 have HY:=Lib.hid hY
 have HJ:=Lib.hid hJ
 have HP0:=Lib.hid hp0
 have HPA:=Lib.hid hpA
 have HA:=Lib.hid hA
 have HR:=Lib.hid hR
 clear hY hJ hp0 hp1 hpA hA hR
 refine callsIn_of_wp Tryz.func144 rfl trivial ?_ rfl
 simp only[Tryz.ntmps144,List.size_toArray,List.length_cons,List.length_nil,Nat.reduceAdd,Nat.reduceSub,Array.replicate_succ,Array.replicate_zero,List.push_toArray,List.append_toArray,List.nil_append,List.cons_append]
 gi_wp2
 gi_loopw [3,4,12] (fun t u v wr=>∃(j:Nat) (pre:List UInt8) (bits used:Nat),j≤n∧v = .int .i64 (j:Int)∧t = .int .i64 (bits:Int)∧u = .int .i64 (used:Int)∧used<8∧bits<2 ^ used∧IsPart (bl (xs.take j)) pre bits used∧KeepZ p W wr∧J pre wr) (fun _ _ v _=>n-(intOf v).toNat)
 case atStart=>exact⟨0,[],0,0,Nat.zero_le _,rfl,rfl,rfl,by omega,by omega,IsPart.nil,KeepZ.refl _ _,h0⟩
 case round=>
  obtain⟨j,pre,bits,used,hj,rfl,rfl,rfl,hu,hb,hpart,hkp,hJj⟩:=hrel
  obtain⟨wo,rfl⟩ : ∃wo:World,wo=wr:=⟨_,rfl⟩
  have HK:=Lib.hid hkp
  have HJj:=Lib.hid hJj
  have HPT:=Lib.hid hpart
  clear hkp hJj hpart hc h0
  by_cases hlt:j<n
  ·obtain⟨b,o,rfl,hb2,hcc⟩:=bs_cell HA.out (by omega)
   obtain⟨x,hx,hcx⟩:=hcc j hlt
   have hcj:=HK.out.1.cell (a:=⟨b,o+j,none⟩) (HPA.out (by omega) b o rfl) hcx
   have HT:=Lib.hid (take_next hx)
   have hm:=mny_bd x
   have hcd:=cod_lt x
   have HRW:=Lib.hid (rws_keep HR.out HK.out.1 HP0.out)
   clear hcc hx hcx
   gi_wp2_with (refine⟨trivial,?_⟩;gi_at_call 127;(with_reducible refine(callsIn_wide.2 (h_code x wo HRW.out)).mono ?_);rintro e w1 ⟨rfl,hb1⟩;have HB1:=Lib.hid hb1;clear hb1)
   have hb7:bits<128:=by
    have:2 ^ used≤2 ^ 7:=Nat.pow_le_pow_right (by decide) (by omega)
    omega
   rw[or_code bits (mny x) (cod x) hb7 hm.2 hcd]
   have hpt:=HPT.out.code x
   rw[←bl_snoc,←HT.out] at hpt
   have hCb:bits*2 ^ mny x+cod x<2 ^ (used+mny x):=by
    have h1:(bits+1)*2 ^ mny x≤2 ^ used*2 ^ mny x:=Nat.mul_le_mul_right _ hb
    rw[←Nat.pow_add,Nat.add_mul] at h1
    omega
   have hCs:bits*2 ^ mny x+cod x<262144:=by
    have h1:2 ^ (used+mny x)≤2 ^ 18:=Nat.pow_le_pow_right (by decide) (by omega)
    have h2:(2:Nat) ^ 18=262144:=by decide
    omega
   have hU:((used:Int)+(mny x:Int))=((used+mny x:Nat):Int):=by omega
   have hU18:used+mny x≤18:=by omega
   rw[hU]
   have HCB:=Lib.hid hCb
   have HPT2:=Lib.hid hpt
   have hK1:KeepZ p W w1:=HK.out.trans (KeepZ.below (HB1.out))
   have hJ1:J pre w1:=AbidesFrom.below (HJ.out) HJj.out HB1.out
   clear hpt hU hb7 hCb hb hcd hcj hm
   generalize bits*2 ^ mny x+cod x=C at *
   generalize used+mny x=U at *
   gi_loopw [4] (fun u wr=>∃(q:List UInt8) (v:Nat),u = .int .i64 (v:Int)∧v≤18∧v≤U∧IsPart (bl (xs.take (j+1))) q C v∧KeepZ p W wr∧J q wr) (fun u _=>(intOf u).toNat)
   case atStart=>exact⟨pre,U,rfl,hU18,Nat.le_refl _,HPT2.out,hK1,hJ1⟩
   case round=>
    obtain⟨q,v,rfl,hv,hvU,hpart2,hkp2,hJq⟩:=hrel
    obtain⟨wi,rfl⟩ : ∃wi:World,wi=wr:=⟨_,rfl⟩
    have HK2:=Lib.hid hkp2
    have HJq:=Lib.hid hJq
    have HP2:=Lib.hid hpart2
    clear hkp2 hJq hpart2 hK1 hJ1
    by_cases h8:8≤v
    ·obtain⟨u,rfl⟩ : ∃u,v=u+8:=⟨v-8,by omega⟩
     have e1:((UInt8.ofNat (C / 2 ^ u)).toNat:Int)=(C:Int) / 2 ^ u % 256:=byte_of C u
     have hlq:q.length<((bl xs).length+7) / 8:=by
      have h1:=HP2.out.len
      have h2:=bl_take_len xs (j+1)
      omega
     obtain⟨fn,tmps,assign,body,hy,hR⟩:=HY.out q (UInt8.ofNat (C / 2 ^ u)) wi HJq.out hlq
     rw[e1] at hy
     have HRR:=Lib.hid hR
     clear hR e1 hlq
     gi_wp2
     refine HRR.out.mono ?_
     rintro e w4 ⟨rfl,hJ4,hk4⟩
     have HJ4:=Lib.hid hJ4
     have HK4:=Lib.hid hk4
     clear hJ4 hk4
     gi_wp2
     go_roundw
     case rel=>exact⟨q++[UInt8.ofNat (C / 2 ^ u)],u,by go_num,by omega,by omega,HP2.out.emit (by omega),HK2.out.trans HK4.out,HJ4.out⟩
     case measure=>simp[intOf];omega
    ·have hv8:v<8:=by omega
     gi_wp2
     rw[mask_code C v hv8]
     go_roundw
     case rel=>exact⟨j+1,q,C % 2 ^ v,v,by omega,by go_num,rfl,rfl,hv8,Nat.mod_lt _ (Nat.two_pow_pos v),HP2.out.mask,HK2.out,HJq.out⟩
     case measure=>simp[intOf];omega
  ·obtain rfl:j=n:=by omega
   have hxs:xs.take j=xs:=List.take_of_length_le (by rw[HA.out.1];exact Nat.le_refl _)
   have hpt:=HPT.out
   rw[hxs] at hpt
   have HPT2:=Lib.hid hpt
   clear hpt hxs
   by_cases hz:used=0
   ·subst hz
    gi_wp2
    go_end0
    exact⟨⟨_,rfl⟩,_,HPT2.out.whole_put,HJj.out⟩
   ·have hu0:0<used:=by omega
    obtain⟨f,hf⟩ : ∃f,used+f=8:=⟨8-used,by omega⟩
    have hF:(8:Int)-(used:Int)=(f:Int):=by omega
    gi_wp2
    have hb7:bits<128:=by
     have:2 ^ used≤2 ^ 7:=Nat.pow_le_pow_right (by decide) (by omega)
     omega
    have hJd:J pre wo.drew:=AbidesFrom.below HJ.out HJj.out (Below.refl _ _).drew
    have hKd:KeepZ p W wo.drew:=HK.out.trans (KeepZ.below (Below.refl _ _).drew)
    have hlq:pre.length<((bl xs).length+7) / 8:=by have h1:=HPT2.out.len;omega
    obtain⟨fn,tmps,assign,body,hy,hR⟩:=HY.out pre (UInt8.ofNat (bits*2 ^ f+(2 ^ f-1))) wo.drew hJd hlq
    rw[←fill_code bits f hb7 (by omega)] at hy
    have HRR:=Lib.hid hR
    have HKD:=Lib.hid hKd
    clear hR hJd hKd hlq
    have hfe:8-used=f:=by omega
    have hfin:=HPT2.out.fill hu0 hu
    rw[hfe] at hfin
    have HFIN:=Lib.hid hfin
    clear hfin hfe hb hb7 hF
    gi_region_with ((with_reducible refine HRR.out.mono ?_);rintro e w5 ⟨rfl,hJ5,hk5⟩;have HJ5:=Lib.hid hJ5;clear hJ5 hk5)
    all_goals
     gi_wp2
     go_end0
     exact⟨⟨_,rfl⟩,_,HFIN.out,HJ5.out⟩
end Go.Proofs.YtahiajeggbpogaaGreatDoor
namespace Go.Proofs.YtahiajeggbpogaaGreatDoor
open Go.RowKit Hf Oct
set_option linter.unusedVariables false
set_option linter.unusedSimpArgs false
theorem Hf.run_len5{xs l:List UInt8}{a:Nat}(h:Hf.Run xs l a):5*l.length≤a:=by
 have h2 : ∀b:List UInt8,5*b.length≤(bl b).length:=by
  intro b
  induction b with
  | nil=>simp
  | cons c b ih=>have:=mny_bd c;rw[bl_cons,List.length_append,cbits_length,List.length_cons];omega
 have:=h2 l
 have:=h.len
 omega
theorem info_ru8:(Tryz.prog.info? 5).map (fun i=>(i.zero,i.size,i.bytes))=some (some (.int .u8 0),1,1):=by kernel_rfl
theorem r_put(A:Option Addr)(n c:Nat)(xs:List UInt8)(w:World)(hA:Bs w w.heap.size A n xs)(hn:n≤10000) :
  Calls Tryz.prog 100 #[.slice A n c] w fun e w'=>∃A' m c' ys,e = .returned (.slice A' m c')∧IsPut (bl xs) ys∧HandS w' w.heap.size A' m c' ys∧Below w.heap.size w w':=by
 have HA:=Lib.hid hA
 clear hA
 go_enter Tryz.func100,Tryz.ntmps100
 go_wp2
 go_loopw [3,4,5] (fun s u t wr=>∃(k:Nat) (A1:Option Addr) (c1:Nat) (o:List UInt8),k≤n∧t = .int .i64 (k:Int)∧u = .int .i64 ((bl (xs.take k)).length:Int)∧s = .slice A1 o.length c1∧OwnB wr w.heap.size 5 (.slice A1 o.length c1) o∧IsSoFar (bl (xs.take k)) o∧Below w.heap.size w wr) (fun _ _ t _=>n-(intOf t).toNat)
 case atStart=>exact⟨0,none,0,[],Nat.zero_le _,rfl,rfl,rfl,OwnB.nil_ _ _ _,IsSoFar.nil,Below.refl _ _⟩
 case round=>
  obtain⟨k,A1,c1,o,hk,rfl,rfl,rfl,hown,hsf,hbel⟩:=hrel
  have HO:=Lib.hid hown
  have HSF:=Lib.hid hsf
  have HB:=Lib.hid hbel
  have hle:=bl_take_le xs k
  have hsl:=soFar_len hsf
  obtain⟨A2,c2,e2,hs2⟩:=hown.handS (n:=o.length) rfl
  cases e2
  have HS2:=Lib.hid hs2
  have hol:=hsf.1
  have HOL:=Lib.hid hol
  clear hown hsf hbel hs2 hol
  by_cases hlt:k<n
  ·obtain⟨b,p,rfl,hb,hc⟩:=bs_cell HA.out (by omega)
   obtain⟨x,hx,hcx⟩:=hc k hlt
   have hck:wr.cell? ⟨b,p+k,none⟩=some (.int .u8 (x.toNat:Int)):=(HB.out.cell (p:=⟨b,p+k,none⟩) hb).trans hcx
   have hT:=bl_take hx
   have hTT:=take_next hx
   have hm:=mny_bd x
   have hcd:=cod_lt x
   have hcd2:(cod x:Int)<2 ^ ((mny x:Int)).toNat:=by
    rw[Int.toNat_natCast,pow_int];omega
   have hLAY:=rlay_ok A1 o.length c1 o ((bl (xs.take k)).length:Int) (cod x:Int) (mny x:Int) wr HS2.out.1 (by omega) (by omega) (by omega) (by omega) hcd2 (by omega) (by rw[HOL.out];omega) (by omega)
   have hFIN : ∀ys,IsLaid o ((bl (xs.take k)).length:Int).toNat (cod x:Int).toNat (mny x:Int).toNat ys→IsSoFar (bl (xs.take (k+1))) ys:=fun ys hy=>by
    rw[hTT,bl_snoc]
    simp only[Int.toNat_natCast] at hy
    exact HSF.out.code x hy
   have hsum:((bl (xs.take k)).length:Int)+(mny x:Int)=((bl (xs.take (k+1))).length:Int):=by rw[hT];omega
   rw[hsum] at hLAY
   have HLAY:=Lib.hid hLAY
   have HFIN:=Lib.hid hFIN
   clear hc hx hcx hT hTT hcd hcd2 hLAY hFIN hsum
   go_wp2_with (first
    | (go_at_call 118;(with_reducible refine(r_code x _ wr rfl).mono ?_);rintro e w1 ⟨rfl,rfl⟩)
    | (go_at_call 119;(with_reducible refine HLAY.out.mono ?_);rintro e w2 ⟨v2,ys,rfl,hl2,ho2,hb2⟩;obtain⟨A3,c3,rfl,hh3⟩:=ho2.handS (n:=ys.length) rfl;have HL2:=Lib.hid hl2;have HO2:=Lib.hid ho2;have HB2:=Lib.hid hb2;clear hl2 ho2 hb2 hh3))
   go_roundw
   case rel=>exact⟨k+1,A3,c3,ys,by omega,by go_num,rfl,rfl,HO2.out.less HB.out.size,HFIN.out ys HL2.out,HB.out.trans (HB2.out.mono HB.out.size)⟩
   case measure=>simp[intOf];omega
  ·obtain rfl:k=n:=by omega
   have ht:xs.take k=xs:=List.take_of_length_le (by rw[HA.out.1];exact Nat.le_refl _)
   rw[ht] at HSF HOL hle hsl
   obtain⟨L,hL⟩ : ∃L:Nat,(bl xs).length+L=8*o.length:=⟨8*o.length-(bl xs).length,by omega⟩
   have hL7:L≤7:=by omega
   have hpL:(2:Nat) ^ L≤2 ^ 7:=Nat.pow_le_pow_right (by decide) hL7
   have hp0:=Nat.two_pow_pos L
   have hL2:(8:Int)*(o.length:Int)-((bl xs).length:Int)=(L:Int):=by omega
   have hLAY:=rlay_ok A1 o.length c1 o ((bl xs).length:Int) ((2 ^ L-1:Nat):Int) (L:Int) wr HS2.out.1 (by omega) (by omega) (by omega) (by omega) (by rw[Int.toNat_natCast,pow_int];omega) (by omega) (by rw[HOL.out];omega) (by omega)
   rw[←ones_val L (by omega)] at hLAY
   have HLAY:=Lib.hid hLAY
   have HFIN:Hid (∀ys,IsLaid o ((bl xs).length:Int).toNat (wrap64 (wrap64 (2 ^ L)-1)).toNat (L:Int).toNat ys→IsPut (bl xs) ys):=Lib.hid (fun ys hy=>by
    rw[ones_val L (by omega)] at hy
    simp only[Int.toNat_natCast] at hy
    exact HSF.out.fin (by omega) hy)
   rw[ht]
   clear hLAY ht hL hpL hp0
   generalize (bl xs).length=U at hL2 HLAY HFIN hle ⊢
   go_wp2_with (go_at_call 119;(with_reducible refine HLAY.out.mono ?_);rintro e w2 ⟨v2,ys,rfl,hl2,ho2,hb2⟩;obtain⟨A3,c3,rfl,hh3⟩:=ho2.handS (n:=ys.length) rfl;have HH3:=Lib.hid hh3;have HLL:=Lib.hid hl2;have HB2:=Lib.hid hb2;clear hl2 ho2 hb2 hh3)
   go_ret
   exact⟨A3,ys.length,c3,ys,rfl,HFIN.out ys HLL.out,⟨HH3.out.1,FreshS.less HH3.out.2.1 HB.out.size,HH3.out.2.2⟩,HB.out.trans (HB2.out.mono HB.out.size)⟩
theorem r_take(A:Option Addr)(n c:Nat)(xs:List UInt8)(w:World)(hA:Bs w w.heap.size A n xs)(hn:n≤10000) :
  Calls Tryz.prog 126 #[.slice A n c] w fun e w'=>∃A' m c',e = .returned (.tuple #[.slice A' m c',.int .i64 (takeE xs)])∧HandS w' w.heap.size A' m c' (takeL xs)∧Below w.heap.size w w':=by
 have HA:=Lib.hid hA
 have HLEN:=Lib.hid hA.1
 obtain⟨i0,hi,hz0,hz1,hz2⟩:=info_parts info_ru8
 have hinf:=Lib.hid (And.intro hi (And.intro hz0 (And.intro hz1 hz2)))
 clear hA hi hz0 hz1 hz2
 go_enter Tryz.func126,Tryz.ntmps126
 go_wp2
 go_loopw [4,5] (fun s t wr=>∃(b:List UInt8) (a:Nat) (A1:Option Addr) (c1:Nat),t = .int .i64 (a:Int)∧s = .slice A1 b.length c1∧a≤8*n∧OwnB wr w.heap.size 5 (.slice A1 b.length c1) b∧Hf.Run xs b a∧Below w.heap.size w wr) (fun _ t _=>8*n-(intOf t).toNat)
 case atStart=>exact⟨[],0,none,0,rfl,rfl,Nat.zero_le _,OwnB.nil_ _ _ _,Hf.Run.nil xs,Below.refl _ _⟩
 case round=>
  obtain⟨b,a,A1,c1,rfl,rfl,ha,hown,hrun,hbel⟩:=hrel
  have HO:=Lib.hid hown
  have HRUN:=Lib.hid hrun
  have HB:=Lib.hid hbel
  have hbl:=bl_le b
  have hrl:=hrun.len
  have hr5:5*b.length≤a:=run_len5 hrun
  have HNX:=Lib.hid (r_next A n c a xs wr (HA.out.on hbel) hn ha)
  clear hown hrun hbel hbl hrl
  have hle:=next_le xs a
  have hST:=fun h=>HRUN.out.step h
  have hND:(nextN xs a).2≠0→(nextN xs a).2=mny (nextN xs a).1∧a+(nextN xs a).2≤8*xs.length:=fun h=>⟨(next_some h).1,(next_some h).2.1⟩
  have hZ:(nextN xs a).2=0→(nextN xs a).1=0:=fun h=>by rw[(next_zero h).1]
  have hEN:(nextN xs a).2=0→b=allL xs∧a=allA xs:=fun h=>Hf.Ends.one ⟨HRUN.out,h⟩ (all_ends xs)
  generalize nextN xs a=x at *
  obtain⟨d,m⟩:=x
  simp only at *
  by_cases hm0:m=0
  ·subst hm0
   have hd0:=hZ rfl
   subst hd0
   obtain⟨e1,e2⟩:=hEN rfl
   have HNX0:Hid (Calls Tryz.prog 141 #[.slice A n c,.int .i64 (a:Int)] wr fun e w'=>e = .returned (.tuple #[.int .u8 0,.int .i64 0])∧Below wr.heap.size wr w'):=Lib.hid HNX.out
   obtain⟨L,hL⟩ : ∃L:Nat,a+L=8*n:=⟨8*n-a,by omega⟩
   have hL2:(8:Int)*(n:Int)-(a:Int)=(L:Int):=by omega
   have hf:fillB xs (allA xs)=decide (L≤7∧codeOf xs a L=2 ^ L-1):=by
    unfold fillB
    rw[←e2,show 8*xs.length-a=L by rw[HLEN.out];omega]
   have HE1:=Lib.hid e1
   by_cases h7:L≤7
   ·have h1:(2:Nat) ^ L≤2 ^ 7:=Nat.pow_le_pow_right (by decide) h7
    have HY:Hid (∀W,Below w.heap.size w W→Calls Tryz.prog 142 #[.slice A n c,.int .i64 (a:Int),.int .i64 (L:Int)] W fun e w'=>e = .returned (.tuple #[.int .i64 (codeOf xs a L:Int),.bool true])∧W=w'):=Lib.hid fun W hW=>by
     have h:=rbits_yes A _ n c xs (a:Int) (L:Int) W (HA.out.on hW) (by omega) (by omega) (by omega) (by omega) (by omega)
     simpa using h
    have hcl:=codeOf_lt xs a L
    generalize codeOf xs a L=C at *
    by_cases he:C=2 ^ L-1
    ·have hfb:fillB xs (allA xs)=true:=by rw[hf];exact decide_eq_true ⟨h7,he⟩
     have HT3:=Lib.hid (show takeE xs=0∧takeL xs=allL xs by unfold takeE takeL;rw[if_pos hfb,if_pos hfb];exact⟨rfl,rfl⟩)
     have hq:((C:Int) != wrap64 (wrap64 (2 ^ L)-1))=false:=by rw[ones_val L (by omega),he];simp
     clear hST hND hZ hEN hf e1 e2 hL hcl he h1 hfb hle hr5
     go_wp2_with (first
      | (go_at_call 141;(with_reducible refine HNX0.out.mono ?_);rintro e w2 ⟨rfl,hb2⟩;have HB2:=Lib.hid (HB.out.trans (hb2.mono HB.out.size));have HO2:=Lib.hid (HO.out.kept hb2);clear hb2)
      | (go_at_call 142;(with_reducible refine(HY.out w2 HB2.out).mono ?_);rintro e w3 ⟨rfl,rfl⟩))
     obtain⟨A6,c6,e6,hh6⟩:=HO2.out.handS (n:=b.length) rfl
     go_ret2
     exact⟨A6,b.length,c6,by rw[HT3.out.1,←e6];rfl,by rw[HT3.out.2,←HE1.out];exact hh6,HB2.out⟩
    ·have hfb:fillB xs (allA xs)=false:=by rw[hf];exact decide_eq_false (by rintro ⟨_,h⟩;exact he h)
     have HT3:=Lib.hid (show takeE xs=70∧takeL xs=[] by unfold takeE takeL;rw[hfb];exact⟨rfl,rfl⟩)
     have hq:((C:Int) != wrap64 (wrap64 (2 ^ L)-1))=true:=by rw[ones_val L (by omega)];simp;omega
     clear hST hND hZ hEN hf e1 e2 hL hcl he h1 hfb hle hr5
     go_wp2_with (first
      | (go_at_call 141;(with_reducible refine HNX0.out.mono ?_);rintro e w2 ⟨rfl,hb2⟩;have HB2:=Lib.hid (HB.out.trans (hb2.mono HB.out.size));clear hb2)
      | (go_at_call 142;(with_reducible refine(HY.out w2 HB2.out).mono ?_);rintro e w3 ⟨rfl,rfl⟩))
     go_ret2
     exact⟨none,0,0,by rw[HT3.out.1];rfl,by rw[HT3.out.2];exact HandS.nil_ _ _,HB2.out⟩
   ·have hfb:fillB xs (allA xs)=false:=by rw[hf];exact decide_eq_false (by rintro ⟨h,_⟩;exact h7 h)
    have HT3:=Lib.hid (show takeE xs=70∧takeL xs=[] by unfold takeE takeL;rw[hfb];exact⟨rfl,rfl⟩)
    clear hST hND hZ hEN hf e1 e2 hL hfb hle hr5
    go_wp2_with (go_at_call 141;(with_reducible refine HNX0.out.mono ?_);rintro e w2 ⟨rfl,hb2⟩;have HB2:=Lib.hid (HB.out.trans (hb2.mono HB.out.size));clear hb2)
    go_ret2
    exact⟨none,0,0,by rw[HT3.out.1];rfl,by rw[HT3.out.2];exact HandS.nil_ _ _,HB2.out⟩
  ·obtain⟨hmd,hle2⟩:=hND hm0
   subst hmd
   rw[HLEN.out] at hle2
   have HST:=Lib.hid (hST hm0)
   have hmb:=mny_bd d
   have hq:((mny d:Int)==0)=false:=by simp;omega
   clear hST hND hZ hEN hle hm0
   go_wp2_with (first
    | (go_at_call 141;(with_reducible refine HNX.out.mono ?_);rintro e w2 ⟨rfl,hb2⟩;have HB2:=Lib.hid (HB.out.trans (hb2.mono HB.out.size));have HO2:=Lib.hid ((HO.out.kept hb2).alloc (.cells #[.int .u8 (d.toNat:Int)] 5));have hz2:w.heap.size≤w2.heap.size:=HB2.out.size;have HX:=Lib.hid (bs_lit w2 5 [d] #[.int .u8 (d.toNat:Int)] w2.heap.size rfl (by simp[bv]));clear hb2)
    | (at_builtin;refine wpList_append_bytes _ rfl (.tmp 19) (.tmp 21) 25 rfl w.heap.size 5 i0 Tryz.underlying25 hinf.out.1 hinf.out.2.1 hinf.out.2.2.1 hinf.out.2.2.2 _ b rfl HO2.out _ (some ⟨w2.heap.size,0,none⟩) 1 1 [d] rfl HX.out (fun h=>by cases h) (by omega) (by simp;omega) ?_;intro v4 w4 hown4 hb4;obtain⟨A6,c6,rfl,hh6⟩:=hown4.handS (n:=(b++[d]).length) rfl;have HO4:=Lib.hid hown4;have HB4:=Lib.hid ((HB2.out.alloc hz2 _).trans hb4);clear hown4 hb4 hh6))
   go_roundw
   case rel=>exact⟨b++[d],a+mny d,A6,c6,by go_num,by simp,hle2,HO4.out,HST.out,HB4.out⟩
   case measure=>simp[intOf];omega
end Go.Proofs.YtahiajeggbpogaaGreatDoor
namespace Go.Proofs.YtahiajeggbpogaaGreatDoor
open Go.RowKit Hf Go.Shelf Oct
set_option linter.unusedVariables false
set_option linter.unusedSimpArgs false
attribute [local go_sem] Oper.semAt_some
theorem info_hu8:(Tryz.prog.info? 5).map (fun i=>(i.zero,i.size,i.bytes))=some (some (.int .u8 0),1,1):=by kernel_rfl
theorem h_packed(A:Option Addr)(n c:Nat)(w:World):Calls Tryz.prog 128 #[.slice A n c] w fun e w'=>
   e = .returned (.func (.func 144) #[] #[.pointer (some ⟨w.heap.size,0,none⟩)])∧w.alloc (.cells #[.slice A n c] 25)=w':=by
 go_enter Tryz.func128,Tryz.ntmps128
 go_wp2
 go_ret
 exact⟨rfl,rfl⟩
theorem packed_stops(k:Nat)(hk:1≤k)(B1 n c:Nat)(A:Option Addr)(xs:List UInt8)(p:Nat→Prop)(w:World)(hR:Rws w)
  (hp0:p 6) (hp1:p B1) (hB1:B1<w.heap.size) (hpA:0<n→∀b o,A=some ⟨b,o,none⟩→p b) (hn:n≤10000)
  (hc:w.cell? ⟨B1,0,none⟩=some (.slice A n c)) (hA:Bs w w.heap.size A n xs) :
  SeqS Fence.wide k Tryz.prog 144 #[.pointer (some ⟨B1,0,none⟩)] (fun x:UInt8=>#[.int .u8 (x.toNat:Int)]) (KeepZ p) (fun _ _=>False) (fun _ _ _=>True) (fun ys=>IsPut (bl xs) ys) (((bl xs).length+7) / 8) w:=fun l J W hW hJ hSt hY h0=>
 packed1_in k hk l B1 n c A xs p J W hJ (hR.on hW) hp0 hp1 hpA hn (fun pre x W1 hj hl=>hY pre x W1 hj trivial hl) ((hW.cell (p:=⟨B1,0,none⟩) hB1).trans hc) ((hA.below hW).more hW.size) h0
theorem h_put(A:Option Addr)(n c:Nat)(xs:List UInt8)(w:World)(hR:Rws w)(hA:Bs w w.heap.size A n xs)(hn:n≤10000) :
  Calls Tryz.prog 112 #[.slice A n c] w fun e w'=>∃A' m c' ys,e = .returned (.slice A' m c')∧IsPut (bl xs) ys∧HandS w' w.heap.size A' m c' ys∧Below w.heap.size w w':=by
 have hbd:=bl_le xs
 have hl:=hA.1
 have hbd2:(bl xs).length≤110000:=by omega
 have HSZ:=Lib.hid (h_size A n c xs w hR hA hn)
 have HA:=Lib.hid hA
 have HR:=Lib.hid hR
 obtain⟨i0,hi,hz0,hz1,hz2⟩:=info_parts info_hu8
 have hinf:=Lib.hid (And.intro hi (And.intro hz0 (And.intro hz1 hz2)))
 clear hi hz0 hz1 hz2 hbd hl hA hR
 obtain⟨m0,hm0⟩ : ∃m,((bl xs).length+7) / 8=m:=⟨_,rfl⟩
 rw[hm0] at HSZ
 have hm1:m0≤20000:=by omega
 have HM0:=Lib.hid hm0
 clear hm0
 refine(callsIn_wide (n:=6)).1 (callsIn_of_wp_marks Tryz.func112 rfl trivial ?_ rfl)
 refine wpIn_wide.2 ?_
 simp only[Tryz.ntmps112,List.size_toArray,List.length_cons,List.length_nil,Nat.reduceAdd,Nat.reduceSub,Array.replicate_succ,Array.replicate_zero,List.push_toArray,List.append_toArray,List.nil_append,List.cons_append]
 go_wp2_with (first
  | (go_at_call 95;(with_reducible refine HSZ.out.mono ?_);rintro e w1 ⟨rfl,hb1⟩;have HB1:=Lib.hid hb1;have hz1:w.heap.size≤w1.heap.size:=hb1.size;clear hb1)
  | (at_make;refine wpList_make_own _ rfl (.const (.int .i64 0)) (.tmp 6) 25 rfl w1.heap.size 5 i0 (.int .u8 0) 1 Tryz.underlying25 hinf.out.1 hinf.out.2.1 hinf.out.2.2.1 .i64 .i64 _ m0 rfl rfl rfl (by rw[hinf.out.2.2.2];omega) (by unfold maxLen;omega) (Nat.le_refl _) ?_;intro w2 hown2 hgrow2;have HO2:Hid (OwnB w2 w1.heap.size 5 (.slice (some ⟨w1.heap.size,0,none⟩) 0 m0) []):=Lib.hid hown2;have HG2:=Lib.hid hgrow2;have hz2:w1.heap.size<w2.heap.size:=World.ownsRow.lt hown2 _ rfl |>.2;clear hown2 hgrow2)
  | (go_at_call 128;refine(h_packed _ _ _ _).mono ?_;rintro e w' ⟨rfl,rfl⟩))
 have hb2:Below w.heap.size w w2:=HB1.out.grown HG2.out HB1.out.size (fun k e=>by cases e)
 have hb0:Below w.heap.size w ((w2.alloc (.cells #[.slice (some ⟨w1.heap.size,0,none⟩) 0 m0] 25)).alloc (.cells #[.slice A n c] 25)):=(hb2.alloc hb2.size _).alloc (by simp only[World.size_alloc];have:=hb2.size;omega) _
 have hr0:((w2.alloc (.cells #[.slice (some ⟨w1.heap.size,0,none⟩) 0 m0] 25)).alloc (.cells #[.slice A n c] 25)).heap[w2.heap.size]? = some (.cells #[.slice (some ⟨w1.heap.size,0,none⟩) 0 m0] 25):=(Below.heap_alloc _ _ _ (by simp)).trans (World.alloc_heap_new _ _)
 have hr1:((w2.alloc (.cells #[.slice (some ⟨w1.heap.size,0,none⟩) 0 m0] 25)).alloc (.cells #[.slice A n c] 25)).heap[w2.heap.size+1]? = some (.cells #[.slice A n c] 25):=by
  have h:=World.alloc_heap_new (w2.alloc (.cells #[.slice (some ⟨w1.heap.size,0,none⟩) 0 m0] 25)) (.cells #[.slice A n c] 25)
  rwa [World.size_alloc] at h
 have hz:((w2.alloc (.cells #[.slice (some ⟨w1.heap.size,0,none⟩) 0 m0] 25)).alloc (.cells #[.slice A n c] 25)).heap.size=w2.heap.size+2:=by simp
 have ho0:OwnB ((w2.alloc (.cells #[.slice (some ⟨w1.heap.size,0,none⟩) 0 m0] 25)).alloc (.cells #[.slice A n c] 25)) w1.heap.size 5 (.slice (some ⟨w1.heap.size,0,none⟩) 0 m0) []:=HO2.out.kept (((Below.refl _ w2).alloc (Nat.le_refl _) _).alloc (by simp) _)
 have hR0:=HR.out.on hb0
 have hA0:=HA.out.on hb0
 generalize ((w2.alloc (.cells #[.slice (some ⟨w1.heap.size,0,none⟩) 0 m0] 25)).alloc (.cells #[.slice A n c] 25))=Ws at *
 have hzw:=hb2.size
 have hbb : ∀b o,0<n→A=some ⟨b,o,none⟩→b<w.heap.size:=fun b o h0 e=>by
  obtain⟨b',o',e',hb',_⟩:=bs_cell HA.out h0
  rw[e] at e'
  cases e'
  exact hb'
 refine(wpIn_wide (n:=6)).1 ?_
 refine wpIn_rangeFunc_state rfl (by omega) (gf:=144) (lb:=#[.pointer (some ⟨w2.heap.size+1,0,none⟩)]) rfl trivial (enters_of Tryz.func144 (by kernel_rfl) rfl)
  (packed_stops 5 (by omega) (w2.heap.size+1) n c A xs (fun j=>j<w.heap.size∨j=w2.heap.size+1) Ws hR0 (.inl HR.out.lt) (.inr rfl) (by omega) (fun h0 b o e=>.inl (hbb b o h0 e)) hn (cells1_row hr1) hA0)
  (fun h k=>KeepZ.trans h k) (fun W l o o' _ h hc _=>⟨KeepC.put W l o o' h hc,(grownBy_putObj' W l o').size⟩) (fun _=>rfl) (fun A B l o hs h hc=>hs.elim)
  (GatherM w w2.heap.size w1.heap.size Ws.heap.size 25 5) (gatherM_own (by omega)) (fun pre A B h hs=>hs.elim) ⟨⟨_,hr0,ho0,fun k e=>by cases e;exact .inl rfl⟩,hb0,Nat.le_refl _⟩
  (fun pre x a' W=>a'={ tmps:=#[.slice A n c,undef,.slice none 0 0,.pointer (some ⟨w2.heap.size,0,none⟩),.int .u8 (x.toNat:Int),.slice A n c,.int .i64 (m0:Int),.slice (some ⟨w1.heap.size,0,none⟩) 0 m0,.slice A n c,.func (.func 144) #[] #[.pointer (some ⟨w2.heap.size+1,0,none⟩)],.int .u8 (x.toNat:Int),undef,undef,undef,undef,undef],defers:=[] }) (fun pre x a' _ _ _ _ h _ _=>h)
  ?assign ?body ?done
 case assign=>
  intro l pre x W K hI hV hK
  have HK:=Lib.hid hK
  have HI:=Lib.hid hI
  clear hK hI hV
  gi_wp2
  exact HK.out _ _ (KeepsFrom.refl _ _) (KeepZ.refl _ _) HI.out rfl
 case body=>
  rintro l pre x a' W hl0 hI rfl hlen2
  obtain⟨⟨v,hrow,hown,hob⟩,hbel,hsz⟩:=hI
  have c0:=cells1_row hrow
  have HROW:=Lib.hid hrow
  have HOWN:=Lib.hid hown
  have HOB:=Lib.hid hob
  have HOWN2:=Lib.hid (hown.alloc (.cells #[.int .u8 (x.toNat:Int)] 5))
  have hlW : ∀j u,([x].map bv)[j]? = some u→(W.alloc (.cells #[.int .u8 (x.toNat:Int)] 5)).cell? ((⟨W.heap.size,0,none⟩:Addr).add j)=some u:=by
   intro j y hy
   have hj:j=0:=by
    have:=(List.getElem?_eq_some_iff.1 hy).1
    simp at this
    omega
   subst hj
   simp only[List.map_cons,List.map_nil,List.getElem?_cons_zero,Option.some.injEq] at hy
   subst hy
   simp[go_sem,bv]
  have HLW:=Lib.hid hlW
  have HBEL:=Lib.hid hbel
  rw[HM0.out] at hlen2
  clear hrow hown hob hlW hbel hr0 hr1 hb0 hb2 ho0 hR0 hA0 hbb
  gi_wp2_with (gi_at_builtin;refine wpListIn_append_full _ rfl (.tmp 11) (.tmp 13) 25 rfl w1.heap.size 5 i0 Tryz.underlying25 hinf.out.1 hinf.out.2.1 hinf.out.2.2.1 hinf.out.2.2.2 v pre rfl HOWN2.out ⟨W.heap.size,0,none⟩ 1 1 [x] rfl HLW.out rfl (by omega) (by simp;omega) ?_;intro v4 w4 hown4 hb4 hg4 hv4;have HO4:=Lib.hid hown4;have HG4:=Lib.hid hg4;have HV4:=Lib.hid hv4;have hr4:w4.heap[w2.heap.size]? = some (.cells #[v] 25):=(hg4.block w2.heap.size (by simp;omega) (fun e=>by have:=HOB.out _ e.symm;omega)).trans ((Below.heap_alloc _ _ _ (by omega)).trans HROW.out);have c4:=cells1_row hr4;have f4:=frozen_of_row w4 _ 0 _ _ hr4;obtain⟨A6,c6,rfl,hh6⟩:=hown4.handS (n:=pre.length+1) (by simp);clear hown4 hb4 hg4 hv4 hr4 hh6)
  exact gatherM_round (KeepZ _) (fun j=>j<w.heap.size∨j=w2.heap.size+1) (fun A B h h2=>⟨h,h2⟩) (by omega) (by omega) (by omega) (by omega) hsz (fun j hj=>by omega) HROW.out HOWN.out HOB.out HBEL.out HG4.out HO4.out HV4.out
 case done=>
  rintro D ys W hD hput hI hK
  obtain⟨⟨v,hrow,hown,hob⟩,hbel,hsz⟩:=hI
  obtain⟨A1,c1,rfl,hh⟩:=hown.handS (n:=ys.length) rfl
  have c0:=cells1_row hrow
  have HPUT:=Lib.hid hput
  have HK:=Lib.hid hK
  have HFIN:=Lib.hid (handS_putD hh hK)
  have HBF:=Lib.hid (hbel.trans (belowK_b (w:=w) (Nat.le_refl _) W D _ (.deferred none) (by omega) hK rfl rfl))
  clear hrow hown hob hbel hh hK hr0 hr1 hb0 hb2 ho0 hR0 hA0 hbb hput
  go_wp2
  exact⟨by simp,.inl ⟨_,_,rfl,run_takeDeferred HK.out,⟨_,results_tmp rfl _ _ _,A1,ys.length,c1,ys,rfl,HPUT.out,⟨HFIN.out.1,FreshS.less HFIN.out.2.1 (by omega),HFIN.out.2.2⟩,HBF.out⟩⟩⟩
end Go.Proofs.YtahiajeggbpogaaGreatDoor
namespace Go.Proofs.YtahiajeggbpogaaGreatDoor
open Go.RowKit Hf
set_option linter.unusedVariables false
set_option linter.unusedSimpArgs false
end Go.Proofs.YtahiajeggbpogaaGreatDoor
namespace Go.Proofs.YtahiajeggbpogaaGreatDoor
open Go.RowKit Hf Oct
set_option linter.unusedVariables false
set_option linter.unusedSimpArgs false
end Go.Proofs.YtahiajeggbpogaaGreatDoor
namespace Go.Proofs.YtahiajeggbpogaaGreatDoor
open Go.RowKit Hf Go.Shelf Oct
set_option linter.unusedVariables false
set_option linter.unusedSimpArgs false
attribute [local go_sem] Oper.semAt_some
namespace Hf
def KeepW(p:Nat→Prop)(A B:World):Prop:=KeepC p A B∧KeepsWalks A B
theorem KeepW.trans{p:Nat→Prop}{A B C:World}(h:KeepW p A B)(k:KeepW p B C):KeepW p A C:=⟨h.1.trans k.1,h.2.trans k.2⟩
end Hf
end Go.Proofs.YtahiajeggbpogaaGreatDoor
namespace Go.Proofs.YtahiajeggbpogaaGreatDoor
open Go.RowKit Hf Go.Shelf Oct
set_option linter.unusedVariables false
set_option linter.unusedSimpArgs false
attribute [local go_sem] Oper.semAt_some
end Go.Proofs.YtahiajeggbpogaaGreatDoor
namespace Go.Proofs.YtahiajeggbpogaaGreatDoor
open Go.RowKit Hf Go.Shelf Oct
set_option linter.unusedVariables false
set_option linter.unusedSimpArgs false
attribute [local go_sem] Oper.semAt_some
namespace Hf
def sumL(pre:List (UInt8×Fin 12)):Nat:=(pre.map fun x=>x.2.val).sum
structure TakeI (w:World) (B:Nat) (s t it:TypeId) (pre:List (UInt8×Fin 12)) (W:World):Prop where
 row : ∃v,W.heap[w.heap.size]? = some (.cells #[v] s)∧OwnB W B t v (pre.map Prod.fst)
 at_:W.heap[w.heap.size+1]? = some (.cells #[.int .i64 (sumL pre:Int)] it)
 nz : ∀x∈pre,x.2.val≠0
 below:Below w.heap.size w W
 size:B≤W.heap.size
def TakeX(w:World)(B:Nat)(s t it:TypeId)(c:Code)(pre:List (UInt8×Fin 12))(W:World):Prop:=∃pre' x,pre=pre'++[x]∧x.2.val=0∧c=Code.goto 0∧TakeI w B s t it pre' W
end Hf
end Go.Proofs.YtahiajeggbpogaaGreatDoor
namespace Go.Proofs.YtahiajeggbpogaaGreatDoor
open Go.RowKit Hf Go.Shelf Oct
set_option linter.unusedVariables false
set_option linter.unusedSimpArgs false
attribute [local go_sem] Oper.semAt_some
end Go.Proofs.YtahiajeggbpogaaGreatDoor
