import Derived.Test.YtahiajeggbpogaaGreatDoorRows
import Derived.Test.YtahiajeggbpogaaGreatDoorMGa
import Derived.WalkLawsBesides
import Derived.WalkSpells
import Derived.Laws.BytesArg
import Derived.RangeFuncNested
import Derived.RangeFuncBound
import Derived.RangeFuncCalls
import Derived.RangeFuncLeaves
import Derived.Shelf.Abstract
import Derived.Shelf.RegionOpen
import Derived.WalkKit
import Derived.OwnWalkIn
import Derived.TacticsInMore
import Derived.LoopNIn
import Derived.LoopIn
import Derived.Laws.EntriesVeiled
import Derived.Maps.AppendAt
import Derived.Laws.AppendOwnNone
import Derived.RegionTactic
import Derived.Deep.RegionLaw
import Derived.BigRegion
import Derived.ChangeAlike
set_option maxRecDepth 100000
set_option maxHeartbeats 1000000
namespace Go.Proofs.YtahiajeggbpogaaGreatDoor
open Go.RowKit Oct
attribute [local go_sem] i64_and1 i64_and7 i64_and31
theorem takeB_take(xs:List UInt8)(i j:Nat)(x:UInt8)(h:xs[i+j]? = some x):takeB ((xs.drop i).take (j+1))=takeB ((xs.drop i).take j)*256+x.toNat:=by
 rw[List.take_add_one,List.getElem?_drop,h]
 exact takeB_snoc _ _
theorem takeB_small(xs:List UInt8)(i j:Nat)(h:j≤3):takeB ((xs.drop i).take j)≤16777215:=by
 have h1:=takeB_lt ((xs.drop i).take j)
 have h2:((xs.drop i).take j).length≤3:=Nat.le_trans (List.length_take_le _ _) h
 have h3:256 ^ ((xs.drop i).take j).length≤256 ^ 3:=Nat.pow_le_pow_right (by decide) h2
 omega
theorem or_join8(a b:Nat)(hb:b<256)(ha:a≤16777215):bits .or .i64 ((a:Int)*256) (b:Int)=(a:Int)*256+b:=i64_or_join a b 8 hb (by omega)
end Go.Proofs.YtahiajeggbpogaaGreatDoor
namespace Go.Proofs.YtahiajeggbpogaaGreatDoor
open Go.RowKit Oct
attribute [local go_sem] i64_and1 i64_and7 i64_and31
theorem room_any(A:Option Addr)(n c:Nat)(w:World)(h:n≤1000000) :
  Calls Tryz.prog 155 #[.slice A n c] w fun e w'=>e = .returned (.int .i64 ((n:Int)*8))∧w=w':=by
 go_enter Tryz.func155,Tryz.ntmps155
 go_wp2
 go_ret
 exact⟨rfl,rfl⟩
theorem byte_shr(x:UInt8)(k:Nat):0≤(x.toNat:Int) / 2 ^ k∧(x.toNat:Int) / 2 ^ k≤255:=by
 have h:((x.toNat:Int) / 2 ^ k)=((x.toNat / 2 ^ k:Nat):Int):=by simp
 have h2:x.toNat / 2 ^ k≤x.toNat:=Nat.div_le_self _ _
 have:=x.toNat_lt
 rw[h]
 generalize x.toNat / 2 ^ k=y at *
 omega
theorem bit_raw(b o n c i:Nat)(x:UInt8)(w:World)(h1:i<8*n)(hn:n≤1000000)(hc:w.cell? ⟨b,o+i / 8,none⟩=some (.int .u8 (x.toNat:Int))) :
  Calls Tryz.prog 160 #[.slice (some ⟨b,o,none⟩) n c,.int .i64 i] w fun e w'=>e = .returned (.int .i64 ((x.toNat / 2 ^ (7-i % 8) % 2:Nat):Int))∧w=w':=by
 have hs:0≤7-(i:Int) % 8:=by omega
 have hx:=(byte_shr x (7-i % 8)).1
 have hx':=(byte_shr x (7-i % 8)).2
 go_enter Tryz.func160,Tryz.ntmps160
 go_wp2
 go_ret
 exact⟨ret_int (by simp),rfl⟩
end Go.Proofs.YtahiajeggbpogaaGreatDoor
namespace Go.Proofs.YtahiajeggbpogaaGreatDoor
open Go.RowKit Oct
attribute [local go_sem] i64_and1 i64_and7 i64_and31
theorem half_step(x j:Nat):x / 2 ^ j / 2=x / 2 ^ (j+1):=by rw[Nat.div_div_eq_div_mul,Nat.pow_succ]
theorem rbit_yes(A:Option Addr)(B n c:Nat)(xs:List UInt8)(i:Int)(w:World)(hA:Bs w B A n xs)(h0:0≤i)(h1:i<8*n)(hn:n≤1000000) :
  Calls Tryz.prog 134 #[.slice A n c,.int .i64 i] w fun e w'=>e = .returned (.tuple #[.int .i64 (bitOf xs i.toNat),.bool true])∧w=w':=by
 obtain⟨i,rfl⟩:=Int.eq_ofNat_of_zero_le h0
 rw[Int.toNat_natCast]
 obtain⟨b,o,rfl,hb,hc⟩:=bs_cell hA (by omega)
 obtain⟨x,hx,hcx⟩:=hc (i / 8) (by omega)
 have HX:Hid (bitOf xs i=x.toNat / 2 ^ (7-i % 8) % 2):=Lib.hid (by unfold bitOf;rw[hx];rfl)
 clear hc hA hx
 have d0:decide ((i:Int)<0)=false:=by simp
 have d1:decide ((n:Int)≤(i:Int) / 8)=false:=by simp;omega
 have hxl:x.toNat<256:=x.toNat_lt
 go_enter Tryz.func134,Tryz.ntmps134
 go_wp2
 go_loop [6,7] (fun a t=>∃j:Nat,j≤7-i % 8∧t = .int .i64 j∧a = .int .i64 (x.toNat / 2 ^ j:Nat)) (fun _ t=>7-i % 8-(intOf t).toNat)
 case atStart=>exact⟨0,Nat.zero_le _,rfl,by go_num⟩
 case round=>
  obtain⟨j,hj,rfl,rfl⟩:=hrel
  have hle:x.toNat / 2 ^ j≤x.toNat:=Nat.div_le_self _ _
  have HS:=Lib.hid (half_step x.toNat j)
  by_cases hlt:j<7-i % 8
  ·generalize x.toNat / 2 ^ j=a at *
   go_wp2
   go_round
   case rel=>exact⟨j+1,by omega,by go_num,by rw[←HS.out];go_num⟩
   case measure=>simp[intOf];omega
  ·obtain rfl:j=7-i % 8:=by omega
   have HX':Hid (bitOf xs i=x.toNat / 2 ^ (7-i % 8) % 2):=HX
   clear HX
   generalize x.toNat / 2 ^ (7-i % 8)=a at *
   go_wp2
   go_ret2
   exact⟨ret_int2 (by rw[HX'.out];simp),rfl⟩
theorem rbits_yes(A:Option Addr)(B n c:Nat)(xs:List UInt8)(i k:Int)(w:World)(hA:Bs w B A n xs)(h0:0≤i)(hk0:0≤k)(hk:k≤30)(h1:i+k≤8*n)(hn:n≤1000000) :
  Calls Tryz.prog 142 #[.slice A n c,.int .i64 i,.int .i64 k] w fun e w'=>e = .returned (.tuple #[.int .i64 (codeOf xs i.toNat k.toNat),.bool true])∧w=w':=by
 obtain⟨i,rfl⟩:=Int.eq_ofNat_of_zero_le h0
 obtain⟨k,rfl⟩:=Int.eq_ofNat_of_zero_le hk0
 rw[Int.toNat_natCast,Int.toNat_natCast]
 have HA:=Lib.hid hA
 clear hA
 have d0:decide (30<(k:Int))=false:=by simp;omega
 have d1:decide ((i:Int)<0)=false:=by simp
 have d2:decide (8*(n:Int)<(i:Int))=false:=by simp;omega
 have d3:decide (8*(n:Int)-(i:Int)<(k:Int))=false:=by simp;omega
 go_enter Tryz.func142,Tryz.ntmps142
 go_wp2
 go_loop [8,9,10,11] (fun a t x y=>∃j:Nat,j≤k∧t = .int .i64 j∧a = .int .i64 (codeOf xs i j:Nat)) (fun a t x y=>k-(intOf t).toNat)
 case atStart=>exact⟨0,Nat.zero_le _,rfl,rfl⟩
 case round=>
  obtain⟨j,hj,rfl,rfl⟩:=hrel
  by_cases hlt:j<k
  ·have hb:=bitOf_lt xs (i+j)
   have hcl:=codeOf_lt xs i j
   have hcs:codeOf xs i j<1073741824:=Nat.lt_of_lt_of_le hcl (Nat.pow_le_pow_right (by decide) (show j≤30 by omega))
   have HS:Hid (codeOf xs i (j+1)=2*codeOf xs i j+bitOf xs (i+j)):=Lib.hid rfl
   have hij:(i:Int)+(j:Int)=((i+j:Nat):Int):=by omega
   have HM:=Lib.hid hij
   have HY:=Lib.hid (rbit_yes A B n c xs ((i+j:Nat):Int) w HA.out (by omega) (by omega) hn)
   rw[Int.toNat_natCast] at HY
   clear hij hcl
   generalize codeOf xs i j=a at *
   generalize bitOf xs (i+j)=q at *
   go_wp2_with (go_at_call 134;rw[HM.out];refine HY.out.mono ?_;rintro e w' ⟨rfl,rfl⟩)
   go_round
   case rel=>exact⟨j+1,by omega,by go_num,by rw[HS.out];go_num⟩
   case measure=>simp[intOf];omega
  ·have hjk:j=k:=by omega
   subst hjk
   go_wp2
   go_ret2
   exact⟨rfl,rfl⟩
theorem rbits_none(A:Option Addr)(n c:Nat)(i k:Int)(w:World)(h : ¬(0≤k∧k≤30∧0≤i∧i+k≤8*n))(hn:n≤1000000) :
  Calls Tryz.prog 142 #[.slice A n c,.int .i64 i,.int .i64 k] w fun e w'=>e = .returned (.tuple #[.int .i64 0,.bool false])∧w=w':=by
 by_cases h1:k<0
 ·clear h
  go_enter Tryz.func142,Tryz.ntmps142
  go_wp2
  go_ret2
  exact⟨rfl,rfl⟩
 ·have e1:decide (k<0)=false:=by simpa using h1
  by_cases h2:30<k
  ·have e2:decide (30<k)=true:=by simpa using h2
   clear h
   go_enter Tryz.func142,Tryz.ntmps142
   go_wp2
   go_ret2
   exact⟨rfl,rfl⟩
  ·have e2:decide (30<k)=false:=by simpa using h2
   by_cases h3:i<0
   ·have e3:decide (i<0)=true:=by simpa using h3
    clear h
    go_enter Tryz.func142,Tryz.ntmps142
    go_wp2
    go_ret2
    exact⟨rfl,rfl⟩
   ·have e3:decide (i<0)=false:=by simpa using h3
    by_cases h4:8*(n:Int)<i
    ·have e4:decide (8*(n:Int)<i)=true:=by simpa using h4
     clear h
     go_enter Tryz.func142,Tryz.ntmps142
     go_wp2
     go_ret2
     exact⟨rfl,rfl⟩
    ·have e4:decide (8*(n:Int)<i)=false:=by simpa using h4
     have e5:decide (8*(n:Int)-i<k)=true:=by simp;omega
     clear h
     go_enter Tryz.func142,Tryz.ntmps142
     go_wp2
     go_ret2
     exact⟨rfl,rfl⟩
end Go.Proofs.YtahiajeggbpogaaGreatDoor
namespace Go.Proofs.YtahiajeggbpogaaGreatDoor
open Go.RowKit Oct
open Go.RowKit Oct Go.Shelf
attribute [local go_sem] Oper.semAt_some
attribute [local go_sem] i64_and1 i64_and7 i64_and31
def KeepP(p:Nat→Prop)(W W':World):Prop:=∀j,p j→W'.heap[j]? = W.heap[j]?
theorem KeepP.refl(p:Nat→Prop)(W:World):KeepP p W W:=fun _ _=>rfl
theorem KeepP.trans{p:Nat→Prop}{A B C:World}(h:KeepP p A B)(k:KeepP p B C):KeepP p A C:=fun j hj=>(k j hj).trans (h j hj)
theorem KeepP.cell{p:Nat→Prop}{W W':World}(h:KeepP p W W'){a:Addr}(ha:p a.block):W'.cell? a=W.cell? a:=World.cell?_of_block (h _ ha)
theorem KeepP.put{p:Nat→Prop}{B:Nat}(hp : ∀j,p j→j<B)(W:World)(l:Nat)(o o':Obj)(hl:B≤l)(_:W.heap[l]? = some o)(_:o.isCells=false)(_:o.isWalk=false):KeepP p W (W.putObj l o'):=fun j hj=>
 (grownBy_putObj' W l o').block j (by have h1:=hp j hj;have h2:=(Array.getElem?_eq_some_iff.1 ‹W.heap[l]? = some o›).1;omega) (fun e=>by cases e;have:=hp _ hj;omega)
theorem KeepP.below{p:Nat→Prop}{B:Nat}{W W':World}(h:Below B W W')(hp : ∀j,p j→j<B):KeepP p W W':=fun j hj=>h.block j (hp j hj)
def codeL(c k:Nat)(j:Nat):List (Fin 2):=(List.range j).map fun t=>⟨c / 2 ^ (k-1-t) % 2,Nat.mod_lt _ (by decide)⟩
theorem codeL_length(c k j:Nat):(codeL c k j).length=j:=by simp[codeL]
theorem codeL_step(c:Nat){k m:Nat}(h:m<k):codeL c k (k-1-m)++[⟨c / 2 ^ m % 2,Nat.mod_lt _ (by decide)⟩]=codeL c k (k-m):=by
 have e:k-m=k-1-m+1:=by omega
 have e2:k-1-(k-1-m)=m:=by omega
 rw[e]
 simp[codeL,List.range_succ,e2]
open Go.RowKit Oct Go.Shelf
attribute [local go_sem] Oper.semAt_some
attribute [local go_sem] i64_and1 i64_and7 i64_and31
end Go.Proofs.YtahiajeggbpogaaGreatDoor
namespace Go.Proofs.YtahiajeggbpogaaGreatDoor
open Go.RowKit Oct
attribute [local go_sem] i64_and1 i64_and7 i64_and31
def layPre(xs:List UInt8)(u c k j:Nat):List (Fin 2):=(List.range j).map fun i=>⟨layBit xs u c k i % 2,Nat.mod_lt _ (by decide)⟩
theorem layBit_lt(xs:List UInt8)(u c k i:Nat):layBit xs u c k i<2:=by
 unfold layBit
 split
 ·exact bitOf_lt _ _
 ·split
  ·exact Nat.mod_lt _ (by decide)
  ·omega
theorem layPre_length(xs:List UInt8)(u c k j:Nat):(layPre xs u c k j).length=j:=by simp[layPre]
theorem layPre_succ(xs:List UInt8)(u c k j:Nat):layPre xs u c k (j+1)=layPre xs u c k j++[⟨layBit xs u c k j % 2,Nat.mod_lt _ (by decide)⟩]:=by simp[layPre,List.range_succ]
theorem laid_pre{xs ys:List UInt8}{u c k:Nat}(h:Laying [] 0 ((u+k+7) / 8) (layPre xs u c k (u+k)) ys):IsLaid xs u c k ys:=by
 refine⟨h.len,fun i hi=>?_⟩
 rw[h.bit i (by have:=h.len;omega)]
 unfold layL
 rw[if_neg (by omega),Nat.sub_zero]
 by_cases h1:i<u+k
 ·have h2:=layBit_lt xs u c k i
  simp only[layPre,List.getElem?_map,List.getElem?_range h1,Option.map_some,Option.getD_some]
  exact Nat.mod_eq_of_lt h2
 ·rw[List.getElem?_eq_none (by rw[layPre_length];omega)]
  unfold layBit
  rw[if_neg (by omega),if_neg h1]
  rfl
theorem or_add_all : ∀y,y<256→∀s,s<8→y / 2 ^ s % 2=0→y ||| 1*2 ^ s=y+1*2 ^ s:=by decide +kernel
theorem orB_add{y:UInt8}{x s:Nat}(hx:x<2)(hs:s<8)(h0:y.toNat / 2 ^ s % 2=0):(orB y x s).toNat=y.toNat+x*2 ^ s:=by
 rw[orB_toNat _ _ _ hx (by omega)]
 have:x=0∨x=1:=by omega
 rcases this with rfl | rfl
 ·simp
 ·exact or_add_all _ y.toNat_lt _ hs h0
theorem made_row{w w2:World}{L:Nat}(hown:w2.ownsRow w.heap.size 5 1 (.slice (some ⟨w.heap.size,0,none⟩) L L) L (madeCells (Value.int IntKind.u8 0).cells (L*1)).toList)
  (hg:w.grownBy w2 none):RowB w2 w.heap.size 5 (List.replicate L 0)∧Below w.heap.size w w2:=by
 refine⟨?_,(Below.refl _ _).grown hg (Nat.le_refl _) (fun k h=>by cases h)⟩
 have e:(madeCells (Value.int IntKind.u8 0).cells (L*1)).toList=(List.replicate L (0:UInt8)).map bv:=by
  rw[Nat.mul_one]
  have h1:(Value.int IntKind.u8 0).cells=#[Value.int IntKind.u8 0]:=rfl
  rw[h1,toList_madeCells_one,List.map_replicate]
  rfl
 rw[e] at hown
 exact RowB.of_own hown
theorem byte_mod(x:Nat):((UInt8.ofNat x).toNat:Int)=(x:Int) % 256:=by simp
open Go.RowKit Oct
theorem ref_wrap2(k:Nat)(h:k≤30):wrap64 (2 ^ k)=2 ^ k:=by
 have h1:(2:Nat) ^ k≤2 ^ 30:=Nat.pow_le_pow_right (by decide) h
 have h2:((2:Int) ^ k)=((2 ^ k:Nat):Int):=by rw[Int.natCast_pow];rfl
 have h3:(2:Nat) ^ 30=1073741824:=by decide
 rw[h3] at h1
 rw[h2]
 generalize (2:Nat) ^ k=z at *
 exact IntWalk.wrap64_in _ ⟨by omega,by omega⟩
theorem laying_none(xs:List UInt8)(u c k L:Nat):Laying [] 0 L (layPre xs u c k 0) (List.replicate L 0):=by
 have:=laying_copy (xs:=[]) (used:=0) (L:=L) rfl (Nat.zero_le _)
 simpa [layPre] using this
theorem rlay_step{W:World}{g:Nat}{xs zs:List UInt8}{u c k j L:Nat}{t:TypeId}(hlay:Laying [] 0 L (layPre xs u c k j) zs)(hrow:RowB W g t zs)(hL:L=(u+k+7) / 8)(hj:j<u+k) :
  ∃y,zs[j / 8]? = some y∧RowB (W.setCell ⟨g,j / 8,none⟩ (.int .u8 ((y.toNat+layBit xs u c k j*2 ^ (7-j % 8):Nat):Int))) g t (zs.set (j / 8) (orB y (layBit xs u c k j) (7-j % 8)))
   ∧Laying [] 0 L (layPre xs u c k (j+1)) (zs.set (j / 8) (orB y (layBit xs u c k j) (7-j % 8)))
   ∧∀X:Int,X=(layBit xs u c k j:Int)→((y.toNat:Int)+wrap64 (X*2 ^ (7-j % 8))) % 256=((y.toNat+layBit xs u c k j*2 ^ (7-j % 8):Nat):Int):=by
 have hlen:=hlay.len
 have hb:=layBit_lt xs u c k j
 have hq:j / 8<zs.length:=by omega
 have h0:(zs[j / 8]).toNat / 2 ^ (7-j % 8) % 2=0:=by
  have h1:=hlay.bit j (by omega)
  unfold bitOf layL at h1
  rw[List.getElem?_eq_getElem hq,if_neg (by omega),List.getElem?_eq_none (by rw[layPre_length];omega)] at h1
  simpa using h1
 refine⟨zs[j / 8],List.getElem?_eq_getElem hq,?_,?_,?_⟩
 ·have:=hrow.set_ (j / 8) (orB zs[j / 8] (layBit xs u c k j) (7-j % 8))
  rw[orB_add hb (by omega) h0] at this
  exact this
 ·have:=laying_step hlay ⟨layBit xs u c k j % 2,Nat.mod_lt _ (by decide)⟩ (by rw[layPre_length];omega) (y:=zs[j / 8]) (by rw[layPre_length,Nat.zero_add];exact List.getElem?_eq_getElem hq)
  rw[layPre_length,←layPre_succ,Nat.zero_add] at this
  simp only[Nat.mod_eq_of_lt hb] at this
  exact this
 ·rintro X rfl
  have h1:=orB_add (y:=zs[j / 8]) hb (s:=7-j % 8) (by omega) h0
  have h2:=(orB zs[j / 8] (layBit xs u c k j) (7-j % 8)).toNat_lt
  rw[h1] at h2
  have h3:((layBit xs u c k j:Nat):Int)*2 ^ (7-j % 8)=((layBit xs u c k j*2 ^ (7-j % 8):Nat):Int):=by
   rw[Int.natCast_mul,Int.natCast_pow];rfl
  rw[h3]
  generalize layBit xs u c k j*2 ^ (7-j % 8)=z at *
  rw[IntWalk.wrap64_in _ ⟨by omega,by omega⟩]
  omega
theorem rlay_ok(A:Option Addr)(n c:Nat)(xs:List UInt8)(used cd k:Int)(w:World)(hA:Bs w w.heap.size A n xs)(hu0:0≤used)(hc0:0≤cd)(hk0:0≤k)(hk:k≤30)(hcd:cd<2 ^ k.toNat)
  (hu1:used≤8*n) (hu2:(n:Int)≤(used+7) / 8) (hn:n≤1000000) :
  Calls Tryz.prog 119 #[.slice A n c,.int .i64 used,.int .i64 cd,.int .i64 k] w fun e w'=>
   ∃v ys,e = .returned (.tuple #[v,.int .i64 (used+k),.int .i64 0])∧IsLaid xs used.toNat cd.toNat k.toNat ys∧OwnB w' w.heap.size 5 v ys∧Below w.heap.size w w':=by
 obtain⟨u,rfl⟩:=Int.eq_ofNat_of_zero_le hu0
 obtain⟨k,rfl⟩:=Int.eq_ofNat_of_zero_le hk0
 obtain⟨C,hCn⟩ : ∃C,cd.toNat=C:=⟨_,rfl⟩
 have e4:decide (wrap64 (2 ^ k)≤cd)=false:=by rw[ref_wrap2 k (by omega)];simpa using hcd
 rw[hCn,Int.toNat_natCast,Int.toNat_natCast]
 have HC:Hid (cd=(C:Int)):=Lib.hid (by omega)
 clear hCn hcd
 have HA:=Lib.hid hA
 clear hA
 obtain⟨L,hL⟩ : ∃L,L=(u+k+7) / 8:=⟨_,rfl⟩
 have HL:=Lib.hid hL
 have hLk:L≤1000005:=by omega
 have HN:=Lib.hid (show((u:Int)+k+7) / 8=(L:Int) by omega)
 clear hL
 have e1:decide (30<(k:Int))=false:=by simp;omega
 have e3:decide (cd<0)=false:=by simp;omega
 have e5:decide ((u:Int)<0)=false:=by simp
 have e6:decide (8*(n:Int)<(u:Int))=false:=by simp;omega
 have e7:decide (8≤8*(n:Int)-(u:Int))=false:=by simp;omega
 obtain⟨i0,hi,hz0,hz1,hz2⟩:=info_parts info_u8
 have hinf:=Lib.hid (And.intro hi (And.intro hz0 (And.intro hz1 hz2)))
 clear hi hz0 hz1 hz2
 go_enter Tryz.func119,Tryz.ntmps119
 go_wp2_with (rw[HN.out];refine wpList_make_full _ rfl (.tmp 56) (.tmp 56) 25 rfl w.heap.size 5 i0 (.int .u8 0) 1 Tryz.underlying25 hinf.out.1 hinf.out.2.1 hinf.out.2.2.1 .i64 .i64 _ _ L rfl rfl rfl rfl (by rw[hinf.out.2.2.2];omega) (by unfold maxLen;omega) (Nat.le_refl _) ?_;intro w2 hown2 hgrow2;have hfacts:=made_row hown2 hgrow2;clear hown2 hgrow2;have HG:=Lib.hid hfacts.1;have hbel2:=hfacts.2;clear hfacts)
 go_loopw [13,14] (fun t q wr=>∃(j:Nat) (zs:List UInt8),j≤u+k∧t = .int .i64 j∧RowB wr w.heap.size 5 zs∧Laying [] 0 L (layPre xs u C k j) zs∧Below w.heap.size w wr) (fun t _ _=>u+k-(intOf t).toNat)
 case atStart=>exact⟨0,List.replicate L 0,Nat.zero_le _,rfl,HG.out,laying_none xs u C k L,hbel2⟩
 case round=>
  obtain⟨j,zs,hj,rfl,hrow,hlay,hbel⟩:=hrel
  by_cases hlt:j<u+k
  ·obtain⟨y,hy,hset,hst,hby⟩:=rlay_step hlay hrow HL.out hlt
   have hfr:=hrow.frozen (j / 8)
   have hcl:=hrow.cell hy
   have HST:=Lib.hid hst
   have HSET:=Lib.hid hset
   have hbel':=hbel.setCell (p:=⟨w.heap.size,j / 8,none⟩) (Nat.le_refl _) (.int .u8 (((y.toNat+layBit xs u C k j*2 ^ (7-j % 8):Nat):Int)))
   have HB:=Lib.hid hbel'
   have HBY:=Lib.hid hby
   have hyl:y.toNat<256:=y.toNat_lt
   have HA':=Lib.hid (HA.out.below hbel)
   have hjL:j / 8<L:=by have:=HL.out;omega
   clear hset hst hbel' hby hlay hrow hbel
   by_cases hju:j<u
   ·have hbj:Hid ((bitOf xs j:Int)=(layBit xs u C k j:Int)):=Lib.hid (by unfold layBit;rw[if_pos hju])
    have hbl:=bitOf_lt xs j
    have HY:=Lib.hid (rbit_yes A w.heap.size n c xs (j:Int) wr HA'.out (by omega) (by omega) hn)
    rw[Int.toNat_natCast] at HY
    generalize bitOf xs j=q at *
    go_wp2_with (go_at_call 134;refine HY.out.mono ?_;rintro e w' ⟨rfl,rfl⟩)
    go_roundw
    case rel=>
     refine⟨j+1,_,by omega,by go_num,?_,HST.out,?_⟩
     ·rw[HBY.out _ hbj.out];exact HSET.out
     ·rw[HBY.out _ hbj.out];exact HB.out
    case measure=>simp[intOf];omega
   ·have hd:Hid (cd / 2 ^ (u+k-1-j) % 2=(layBit xs u C k j:Int)):=Lib.hid (by
     unfold layBit
     rw[if_neg hju,if_pos hlt,HC.out,Int.natCast_emod,Int.natCast_ediv,Int.natCast_pow]
     rfl)
    have hd0:0≤cd / 2 ^ (u+k-1-j):=Int.ediv_nonneg hc0 (Int.le_of_lt (Int.pow_pos (by decide)))
    go_wp2
    go_roundw
    case rel=>
     refine⟨j+1,_,by omega,by go_num,?_,HST.out,?_⟩
     ·rw[HBY.out _ hd.out];exact HSET.out
     ·rw[HBY.out _ hd.out];exact HB.out
    case measure=>simp[intOf];omega
  ·obtain rfl:j=u+k:=by omega
   have hl:=hlay.len
   have HE:=Lib.hid (laid_pre (by rw[←HL.out];exact hlay))
   have hown:=hrow.own (B:=w.heap.size) (Nat.le_refl _) (by unfold maxLen;omega)
   rw[hl] at hown
   have HO:=Lib.hid hown
   clear hlay hrow hown
   go_wp2
   go_ret3
   exact⟨_,zs,by simp,HE.out,HO.out,hbel⟩
end Go.Proofs.YtahiajeggbpogaaGreatDoor
