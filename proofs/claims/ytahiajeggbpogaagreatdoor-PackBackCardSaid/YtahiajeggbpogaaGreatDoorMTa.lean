import Derived.Test.YtahiajeggbpogaaGreatDoorMGa
import Derived.RegionTactic
import Derived.BigQuiet
import Derived.Deep.QuietTactic
import Derived.Deep.RegionHeld3
set_option maxRecDepth 100000
set_option maxHeartbeats 4000000
namespace Go.Proofs.YtahiajeggbpogaaGreatDoor
open Go.RowKit
set_option linter.unusedVariables false
namespace Tb
def stat:List Fd:=[(⟨#[58,109,101,116,104,111,100]⟩,⟨#[71,69,84]⟩),(⟨#[58,109,101,116,104,111,100]⟩,⟨#[80,79,83,84]⟩),(⟨#[58,112,97,116,104]⟩,⟨#[47]⟩),(⟨#[58,115,99,104,101,109,101]⟩,⟨#[104,116,116,112]⟩),(⟨#[58,115,99,104,101,109,101]⟩,⟨#[104,116,116,112,115]⟩),(⟨#[58,115,116,97,116,117,115]⟩,⟨#[50,48,48]⟩),(⟨#[58,115,116,97,116,117,115]⟩,⟨#[50,48,52]⟩),(⟨#[58,115,116,97,116,117,115]⟩,⟨#[52,48,52]⟩),(⟨#[58,115,116,97,116,117,115]⟩,⟨#[53,48,48]⟩),(⟨#[97,99,99,101,112,116]⟩,⟨#[]⟩),(⟨#[99,111,110,116,101,110,116,45,108,101,110,103,116,104]⟩,⟨#[]⟩),(⟨#[99,111,110,116,101,110,116,45,116,121,112,101]⟩,⟨#[]⟩),(⟨#[99,111,111,107,105,101]⟩,⟨#[]⟩),(⟨#[100,97,116,101]⟩,⟨#[]⟩),(⟨#[104,111,115,116]⟩,⟨#[]⟩),(⟨#[108,111,99,97,116,105,111,110]⟩,⟨#[]⟩),(⟨#[112,114,105,111,114,105,116,121]⟩,⟨#[]⟩),(⟨#[112,114,105,111,114,105,116,121]⟩,⟨#[117,61,49]⟩),(⟨#[115,101,114,118,101,114]⟩,⟨#[]⟩),(⟨#[117,115,101,114,45,97,103,101,110,116]⟩,⟨#[]⟩)]
def statA:Array Value:=#[.string ⟨#[58,109,101,116,104,111,100]⟩,.string ⟨#[71,69,84]⟩,.string ⟨#[58,109,101,116,104,111,100]⟩,.string ⟨#[80,79,83,84]⟩,.string ⟨#[58,112,97,116,104]⟩,.string ⟨#[47]⟩,.string ⟨#[58,115,99,104,101,109,101]⟩,.string ⟨#[104,116,116,112]⟩,.string ⟨#[58,115,99,104,101,109,101]⟩,.string ⟨#[104,116,116,112,115]⟩,.string ⟨#[58,115,116,97,116,117,115]⟩,.string ⟨#[50,48,48]⟩,.string ⟨#[58,115,116,97,116,117,115]⟩,.string ⟨#[50,48,52]⟩,.string ⟨#[58,115,116,97,116,117,115]⟩,.string ⟨#[52,48,52]⟩,.string ⟨#[58,115,116,97,116,117,115]⟩,.string ⟨#[53,48,48]⟩,.string ⟨#[97,99,99,101,112,116]⟩,.string ⟨#[]⟩,.string ⟨#[99,111,110,116,101,110,116,45,108,101,110,103,116,104]⟩,.string ⟨#[]⟩,.string ⟨#[99,111,110,116,101,110,116,45,116,121,112,101]⟩,.string ⟨#[]⟩,.string ⟨#[99,111,111,107,105,101]⟩,.string ⟨#[]⟩,.string ⟨#[100,97,116,101]⟩,.string ⟨#[]⟩,.string ⟨#[104,111,115,116]⟩,.string ⟨#[]⟩,.string ⟨#[108,111,99,97,116,105,111,110]⟩,.string ⟨#[]⟩,.string ⟨#[112,114,105,111,114,105,116,121]⟩,.string ⟨#[]⟩,.string ⟨#[112,114,105,111,114,105,116,121]⟩,.string ⟨#[117,61,49]⟩,.string ⟨#[115,101,114,118,101,114]⟩,.string ⟨#[]⟩,.string ⟨#[117,115,101,114,45,97,103,101,110,116]⟩,.string ⟨#[]⟩]
theorem stat_len:stat.length=20:=rfl
theorem stat_cells:(stat.flatMap fdc).toArray=statA:=rfl
theorem stat_at(k:Nat)(hk:k<20) : ∃x,stat[k]? = some x∧statA[k*2]? = some (.string x.1)∧statA[k*2+1]? = some (.string x.2):=by
 refine⟨stat[k]'(by rw[stat_len];exact hk),List.getElem?_eq_getElem _,?_⟩
 have h:=fcs_at stat k (stat[k]'(by rw[stat_len];exact hk)) (List.getElem?_eq_getElem _)
 rw[←stat_cells]
 simpa using h
def sz(x:Fd):Nat:=x.1.size+x.2.size+32
def full:List Fd→Nat
 | []=>0
 | x::xs=>sz x+full xs
theorem full_append(a b:List Fd):full (a++b)=full a+full b:=by
 induction a with
 | nil=>simp[full]
 | cons x xs ih=>simp[full,ih];omega
theorem full_take_succ{xs:List Fd}{j:Nat}{x:Fd}(h:xs[j]? = some x):full (xs.take (j+1))=full (xs.take j)+sz x:=by
 obtain⟨hl,rfl⟩:=List.getElem?_eq_some_iff.1 h
 rw[←List.take_append_getElem hl,full_append]
 simp[full]
theorem full_take_le(xs:List Fd)(j k:Nat)(h:j≤k):full (xs.take j)≤full (xs.take k):=by
 have e:xs.take k=xs.take j++(xs.take k).drop j:=by
  have:=List.take_append_drop j (xs.take k)
  rw[List.take_take,Nat.min_eq_left h] at this
  exact this.symm
 rw[e,full_append]
 omega
theorem full_take(xs:List Fd)(j:Nat):full (xs.take j)≤full xs:=by
 rcases Nat.le_total j xs.length with h | h
 ·have:=full_take_le xs j xs.length h
  rwa [List.take_length] at this
 ·rw[List.take_of_length_le h];exact Nat.le_refl _
theorem full_len(xs:List Fd):xs.length*32≤full xs:=by
 induction xs with
 | nil=>simp[full]
 | cons x xs ih=>simp[full,sz];omega
theorem sz_le{xs:List Fd}{j:Nat}{x:Fd}(h:xs[j]? = some x):sz x≤full xs:=by
 have h1:=full_take_succ h
 have h2:=full_take xs (j+1)
 omega
def fits(M:Int)(xs:List Fd):Nat→Nat
 | 0=>0
 | k+1=>if (full (xs.take (k+1)):Int)≤M then k+1 else fits M xs k
def fit(M:Int)(xs:List Fd):Nat:=fits M xs xs.length
def keep(M:Int)(xs:List Fd):List Fd:=xs.take (fit M xs)
theorem fits_le(M:Int)(xs:List Fd)(k:Nat):fits M xs k≤k:=by
 induction k with
 | zero=>exact Nat.le_refl _
 | succ k ih=>unfold fits;split<;>omega
theorem fits_full(M:Int)(xs:List Fd)(k:Nat)(hM:0≤M):(full (xs.take (fits M xs k)):Int)≤M:=by
 induction k with
 | zero=>simpa [fits,full] using hM
 | succ k ih=>
  unfold fits
  split
  ·assumption
  ·exact ih
theorem fits_max(M:Int)(xs:List Fd)(k j:Nat)(hj:j≤k)(h:(full (xs.take j):Int)≤M):j≤fits M xs k:=by
 induction k with
 | zero=>omega
 | succ k ih=>
  unfold fits
  split
  ·exact hj
  ·rename_i hn
   rcases Nat.lt_or_ge j (k+1) with h1 | h1
   ·exact ih (by omega)
   ·obtain rfl:j=k+1:=by omega
    exact absurd h hn
theorem fit_le(M:Int)(xs:List Fd):fit M xs≤xs.length:=fits_le M xs _
theorem fit_full{M:Int}(xs:List Fd)(hM:0≤M):(full (xs.take (fit M xs)):Int)≤M:=fits_full M xs _ hM
theorem fit_iff{M:Int}{xs:List Fd}{j:Nat}(hM:0≤M)(hj:j≤xs.length):(full (xs.take j):Int)≤M↔j≤fit M xs:=by
 constructor
 ·exact fits_max M xs _ j hj
 ·intro h
  have h1:=fit_full xs hM
  have h2:=full_take_le xs j _ h
  omega
theorem keep_len(M:Int)(xs:List Fd):(keep M xs).length=fit M xs:=by
 unfold keep
 rw[List.length_take]
 exact Nat.min_eq_left (fit_le M xs)
theorem keep_full{M:Int}(xs:List Fd)(hM:0≤M):(full (keep M xs):Int)≤M:=fit_full xs hM
theorem fit_all{M:Int}{xs:List Fd}(h:(full xs:Int)≤M):fit M xs=xs.length:=by
 have h1:=fits_max M xs xs.length xs.length (Nat.le_refl _) (by rwa [List.take_length])
 have h2:=fit_le M xs
 unfold fit at *
 omega
theorem keep_all{M:Int}{xs:List Fd}(h:(full xs:Int)≤M):keep M xs=xs:=by
 unfold keep
 rw[fit_all h,List.take_length]
def okB(M:Int):Bool:=decide (0≤M)&&decide (M≤4096)
def rightB(M:Int)(xs:List Fd):Bool:=okB M&&decide ((full xs:Int)≤M)
def addM(M:Int)(xs:List Fd):Int:=if rightB M xs then M else 0
def addL(M:Int)(xs:List Fd)(f:Fd):List Fd:=if rightB M xs then keep M (f::xs) else []
def addE(M:Int)(xs:List Fd):Int:=if rightB M xs then 0 else 2
def resB(M:Int)(xs:List Fd)(m:Int):Bool:=rightB M xs&&okB m
def resM(M:Int)(xs:List Fd)(m:Int):Int:=if resB M xs m then m else 0
def resL(M:Int)(xs:List Fd)(m:Int):List Fd:=if resB M xs m then keep m xs else []
def resE(M:Int)(xs:List Fd)(m:Int):Int:=if resB M xs m then 0 else 2
def atO(xs:List Fd)(i:Int):Option Fd:=if 1≤i then (stat++xs)[(i-1).toNat]? else none
def atV(xs:List Fd)(i:Int):Fd:=(atO xs i).getD fd0
def atE(xs:List Fd)(i:Int):Int:=if (atO xs i).isSome then 0 else 90
theorem atO_stat(xs:List Fd)(k:Nat)(hk:k<20):atO xs ((k:Int)+1)=stat[k]?:=by
 unfold atO
 rw[if_pos (by omega),show((k:Int)+1-1).toNat=k by omega,List.getElem?_append_left (by rw[stat_len];exact hk)]
theorem atO_row(xs:List Fd)(k:Nat):atO xs ((k:Int)+21)=xs[k]?:=by
 unfold atO
 rw[if_pos (by omega),show((k:Int)+21-1).toNat=20+k by omega,List.getElem?_append_right (by rw[stat_len];omega),stat_len,Nat.add_sub_cancel_left]
theorem atO_low(xs:List Fd)(i:Int)(h:i<1):atO xs i=none:=by
 unfold atO
 rw[if_neg (by omega)]
def ixOf(p:Fd→Bool)(l:List Fd):Nat:=match l.findIdx? p with
 | some i=>i+1
 | none=>0
theorem ixOf_snoc(p:Fd→Bool)(l:List Fd)(x:Fd):ixOf p (l++[x])=if ixOf p l=0 then (if p x then l.length+1 else 0) else ixOf p l:=by
 unfold ixOf
 rw[List.findIdx?_append]
 cases h:l.findIdx? p with
 | some i=>simp
 | none=>
  by_cases hp:p x=true<;>simp[hp,List.findIdx?_cons]
theorem ixOf_le(p:Fd→Bool)(l:List Fd):ixOf p l≤l.length:=by
 unfold ixOf
 split
 ·rename_i i h
  have:=List.findIdx?_eq_some_iff_getElem.1 h
  obtain⟨h1,_⟩:=this
  omega
 ·exact Nat.zero_le _
theorem ixOf_zero{p:Fd→Bool}{l:List Fd}:ixOf p l=0↔∀x∈l,p x=false:=by
 unfold ixOf
 constructor
 ·intro h
  split at h
  ·omega
  ·rename_i hn
   simpa [List.findIdx?_eq_none_iff] using hn
 ·intro h
  have:l.findIdx? p=none:=by simpa [List.findIdx?_eq_none_iff] using h
  rw[this]
theorem ixOf_at{p:Fd→Bool}{l:List Fd}{i:Nat}(h:ixOf p l=i+1) : ∃x,l[i]? = some x∧p x=true∧∀j y,j<i→l[j]? = some y→p y=false:=by
 unfold ixOf at h
 split at h
 ·rename_i k hk
  obtain rfl:k=i:=by omega
  obtain⟨h1,h2,h3⟩:=List.findIdx?_eq_some_iff_getElem.1 hk
  refine⟨l[k],List.getElem?_eq_getElem h1,h2,fun j y hj hy=>?_⟩
  obtain⟨h4,rfl⟩:=List.getElem?_eq_some_iff.1 hy
  simpa using h3 j hj
 ·omega
def isF(f x:Fd):Bool:=decide (x=f)
def isN(f x:Fd):Bool:=decide (x.1=f.1)
def findI(xs:List Fd)(f:Fd):Nat:=if ixOf (isF f) (stat++xs)=0 then ixOf (isN f) (stat++xs) else ixOf (isF f) (stat++xs)
def findB(xs:List Fd)(f:Fd):Bool:=!decide (ixOf (isF f) (stat++xs)=0)
theorem findI_le(xs:List Fd)(f:Fd):findI xs f≤20+xs.length:=by
 unfold findI
 have h1:=ixOf_le (isF f) (stat++xs)
 have h2:=ixOf_le (isN f) (stat++xs)
 rw[List.length_append,stat_len] at h1 h2
 split<;>omega
def byts(xs:List Fd):Nat:=full xs-32*xs.length
def greatB(xs:List Fd):Bool:=decide (140<xs.length)||decide (5000<byts (xs.take 141))
theorem byts_succ{xs:List Fd}{j:Nat}{x:Fd}(h:xs[j]? = some x):byts (xs.take (j+1))=byts (xs.take j)+x.1.size+x.2.size:=by
 have h1:=full_take_succ h
 have h2:=full_len (xs.take j)
 have hl:=(List.getElem?_eq_some_iff.1 h).1
 unfold byts
 rw[h1,List.length_take,List.length_take,Nat.min_eq_left (by omega),Nat.min_eq_left (by omega)]
 rw[List.length_take,Nat.min_eq_left (by omega)] at h2
 unfold sz
 omega
end Tb
end Go.Proofs.YtahiajeggbpogaaGreatDoor
namespace Go.Proofs.YtahiajeggbpogaaGreatDoor
open Go.RowKit Tb
set_option linter.unusedVariables false
set_option linter.unusedSimpArgs false
theorem infoc_T:(Tryz.prog.info? 24).map (·.size)=some 2:=by kernel_rfl
theorem infoc_D:(Tryz.prog.info? 27).map (·.size)=some 2:=by kernel_rfl
theorem infoc_L:(Tryz.prog.info? 22).map (·.size)=some 1:=by kernel_rfl
theorem infoc_i:(Tryz.prog.info? 3).map (·.size)=some 1:=by kernel_rfl
theorem infoc_A:(Tryz.prog.info? 133).map (·.size)=some 40:=by kernel_rfl
theorem info_fld:(Tryz.prog.info? 27).map (fun i=>(i.zero,i.size,i.bytes))=some (some (.agg #[.string ⟨#[]⟩,.string ⟨#[]⟩]),2,32):=by kernel_rfl
namespace Tb
def Stv(w:World):Prop:=∀j v,statA[j]? = some v→w.cell? ⟨5,j,none⟩=some v
theorem Stv.lt{w:World}(h:Stv w):5<w.heap.size:=block_lt_of_cell (h 0 _ rfl)
theorem Stv.on{w w':World}(h:Stv w)(hb:Below w.heap.size w w'):Stv w':=fun j v hj=>(hb.cell (p:=⟨5,j,none⟩) h.lt).trans (h j v hj)
def stF:Fact where
 on k:=k=5
 is w:=Stv w
 dep w w' h hz hk:=fun j v hj=>(World.cell?_of_block (hk 5 rfl)).trans (h j v hj)
theorem EnvF.stv{w:World}{fs:List Fact}{gs:List Bx}(h:EnvF w fs gs)(hm:stF∈fs):Stv w:=(h.f _ hm).1
theorem envS(w:World)(h:Stv w):EnvF w [stF] []:=(EnvF.nil w).add0 (x:=stF) h (fun k hk=>by cases hk;exact h.lt)
end Tb
end Go.Proofs.YtahiajeggbpogaaGreatDoor
namespace Go.Proofs.YtahiajeggbpogaaGreatDoor
open Go.RowKit Tb
set_option linter.unusedVariables false
set_option linter.unusedSimpArgs false
theorem at_dst{P:Program}{ops:Array Oper}{rest:List Oper}{o:Oper}{a:Act}{w:World}{Q:Exit→Act→World→Prop}(d:Tmp)(_:o.dst=some d)(h:wpList P ops Q (o::rest) a w):wpList P ops Q (o::rest) a w:=h
theorem wpList_val{P:Program}{ops:Array Oper}{rest:List Oper}{op:Oper}{a:Act}{w:World}{Q:Exit→Act→World→Prop}(hgd:op.guard=none)(v:Value)
  (hr:(execOp a.eval op).run P w = .ok (.value v) w) (h:wpList P ops Q rest (a.put op.dst v) w):wpList P ops Q (op::rest) a w:=
 wpList_plain hgd fun _ hK=>by
  unfold Oper.wp
  rw[hr]
  exact hK _ _ h
namespace Tb
def sv(k:Nat):Value:=fdv (stat.getD k fd0)
def zerA:Array Value:=#[.string ⟨#[]⟩,.string ⟨#[]⟩,.string ⟨#[]⟩,.string ⟨#[]⟩,.string ⟨#[]⟩,.string ⟨#[]⟩,.string ⟨#[]⟩,.string ⟨#[]⟩,.string ⟨#[]⟩,.string ⟨#[]⟩,.string ⟨#[]⟩,.string ⟨#[]⟩,.string ⟨#[]⟩,.string ⟨#[]⟩,.string ⟨#[]⟩,.string ⟨#[]⟩,.string ⟨#[]⟩,.string ⟨#[]⟩,.string ⟨#[]⟩,.string ⟨#[]⟩,.string ⟨#[]⟩,.string ⟨#[]⟩,.string ⟨#[]⟩,.string ⟨#[]⟩,.string ⟨#[]⟩,.string ⟨#[]⟩,.string ⟨#[]⟩,.string ⟨#[]⟩,.string ⟨#[]⟩,.string ⟨#[]⟩,.string ⟨#[]⟩,.string ⟨#[]⟩,.string ⟨#[]⟩,.string ⟨#[]⟩,.string ⟨#[]⟩,.string ⟨#[]⟩,.string ⟨#[]⟩,.string ⟨#[]⟩,.string ⟨#[]⟩,.string ⟨#[]⟩]
def statV:Value:=.agg statA
end Tb
theorem r_static_yes(k:Nat)(x:Fd)(w:World)(hk:k<20)(hx:stat[k]? = some x) :
  Calls Tryz.prog 90 #[.int .i64 ((k:Int)+1)] w fun e w'=>e = .returned (.tuple #[fdv x,.bool true])∧Below w.heap.size w w':=by
 obtain⟨x',hx',h1,h2⟩:=stat_at k hk
 rw[hx] at hx'
 cases hx'
 have H1:=Lib.hid h1
 have H2:=Lib.hid h2
 have HX:=Lib.hid hx
 clear hx h1 h2
 have K0:Hid (EnvF ((w.alloc (.cells #[.string ⟨#[]⟩,.string ⟨#[]⟩] 27)).alloc (.cells zerA 133)) [] [(w.heap.size+1,zerA,133),(w.heap.size,#[.string ⟨#[]⟩,.string ⟨#[]⟩],27)]):=Lib.hid (((EnvF.nil w).boxg 27 #[.string ⟨#[]⟩,.string ⟨#[]⟩] (w.heap.size) (by simp)).boxg 133 zerA (w.heap.size+1) (by simp))
 have B0:Hid (Below w.heap.size w ((w.alloc (.cells #[.string ⟨#[]⟩,.string ⟨#[]⟩] 27)).alloc (.cells zerA 133))):=Lib.hid (((Below.refl _ w).alloc (by first | exact Nat.le_refl _ | (simp only[World.size_alloc];omega)) (.cells #[.string ⟨#[]⟩,.string ⟨#[]⟩] 27)).alloc (by first | exact Nat.le_refl _ | (simp only[World.size_alloc];omega)) (.cells zerA 133))
 go_enter Tryz.func90,Tryz.ntmps90
 go_wp2_with (first
  | go_skip
  | (refine at_dst 5 (by rfl) ?_;refine wpList_val (by rfl) (sv 0) (by kernel_rfl) ?_)
  | (refine at_dst 6 (by rfl) ?_;refine wpList_val (by rfl) (sv 1) (by kernel_rfl) ?_)
  | (refine at_dst 7 (by rfl) ?_;refine wpList_val (by rfl) (sv 2) (by kernel_rfl) ?_)
  | (refine at_dst 8 (by rfl) ?_;refine wpList_val (by rfl) (sv 3) (by kernel_rfl) ?_)
  | (refine at_dst 9 (by rfl) ?_;refine wpList_val (by rfl) (sv 4) (by kernel_rfl) ?_)
  | (refine at_dst 10 (by rfl) ?_;refine wpList_val (by rfl) (sv 5) (by kernel_rfl) ?_)
  | (refine at_dst 11 (by rfl) ?_;refine wpList_val (by rfl) (sv 6) (by kernel_rfl) ?_)
  | (refine at_dst 12 (by rfl) ?_;refine wpList_val (by rfl) (sv 7) (by kernel_rfl) ?_)
  | (refine at_dst 13 (by rfl) ?_;refine wpList_val (by rfl) (sv 8) (by kernel_rfl) ?_)
  | (refine at_dst 14 (by rfl) ?_;refine wpList_val (by rfl) (sv 9) (by kernel_rfl) ?_)
  | (refine at_dst 15 (by rfl) ?_;refine wpList_val (by rfl) (sv 10) (by kernel_rfl) ?_)
  | (refine at_dst 16 (by rfl) ?_;refine wpList_val (by rfl) (sv 11) (by kernel_rfl) ?_)
  | (refine at_dst 17 (by rfl) ?_;refine wpList_val (by rfl) (sv 12) (by kernel_rfl) ?_)
  | (refine at_dst 18 (by rfl) ?_;refine wpList_val (by rfl) (sv 13) (by kernel_rfl) ?_)
  | (refine at_dst 19 (by rfl) ?_;refine wpList_val (by rfl) (sv 14) (by kernel_rfl) ?_)
  | (refine at_dst 20 (by rfl) ?_;refine wpList_val (by rfl) (sv 15) (by kernel_rfl) ?_)
  | (refine at_dst 21 (by rfl) ?_;refine wpList_val (by rfl) (sv 16) (by kernel_rfl) ?_)
  | (refine at_dst 22 (by rfl) ?_;refine wpList_val (by rfl) (sv 17) (by kernel_rfl) ?_)
  | (refine at_dst 23 (by rfl) ?_;refine wpList_val (by rfl) (sv 18) (by kernel_rfl) ?_)
  | (refine at_dst 24 (by rfl) ?_;refine wpList_val (by rfl) (sv 19) (by kernel_rfl) ?_)
  | (refine at_dst 25 (by rfl) ?_;refine wpList_val (by rfl) statV (by kernel_rfl) ?_)
  | (refine at_store 133 (.tmp 4) (.tmp 25) (by rfl) ?_;refine wpList_put (by rfl) 133 (.tmp 4) (.tmp 25) (by rfl) (w.heap.size+1) 0 (statV) (by rfl) (by rfl) 133 zerA statA (K0.out.row 0 rfl) (of_decide_eq_true (by kernel_rfl)) (by kernel_rfl) infoc_A (by kernel_rfl) ?_;intro w1 hrow hoth hz hbl;have K1:Hid (EnvF w1 [] [(w.heap.size+1,statA,133),(w.heap.size,#[.string ⟨#[]⟩,.string ⟨#[]⟩],27)]):=Lib.hid (K0.out.turn 0 rfl hrow hoth hz);have B1:Hid (Below w.heap.size w w1):=Lib.hid (hbl _ _ (by omega) B0.out);clear hrow hoth hz hbl K0 B0;have c1:=(cell_of_row _ _ _ _ _ (0,0) (K1.out.row 0 rfl)).trans H1.out;have c2:=(cell_of_row _ _ _ _ _ (0,0) (K1.out.row 0 rfl)).trans H2.out;clear H1 H2)
  | (refine at_store 27 (.tmp 2) (.tmp 36) (by rfl) ?_;refine wpList_put (by rfl) 27 (.tmp 2) (.tmp 36) (by rfl) (w.heap.size) 0 (.agg #[.string x.1,.string x.2]) (by rfl) (by rfl) 27 #[.string ⟨#[]⟩,.string ⟨#[]⟩] #[.string x.1,.string x.2] (K1.out.row 1 rfl) (by simp[Value.cells]) (by kernel_rfl) infoc_D (by kernel_rfl) ?_;intro w2 hrow hoth hz hbl;have K2:Hid (EnvF w2 [] [(w.heap.size+1,statA,133),(w.heap.size,#[.string x.1,.string x.2],27)]):=Lib.hid (K1.out.turn 1 rfl hrow hoth hz);have B2:Hid (Below w.heap.size w w2):=Lib.hid (hbl _ _ (Nat.le_refl _) B1.out);clear hrow hoth hz hbl K1 B1))
 exact bodyPost_ret (res_cell_tmp rfl _ _ _ _ _ _ rfl (K2.out.row 1 rfl) Tryz.underlying27 rfl infoc_D) rfl ⟨rfl,B2.out⟩
end Go.Proofs.YtahiajeggbpogaaGreatDoor
namespace Go.Proofs.YtahiajeggbpogaaGreatDoor
open Go.RowKit Tb
set_option linter.unusedVariables false
set_option linter.unusedSimpArgs false
theorem r_static_no(i:Int)(w:World)(hi:i<1∨20<i) :
  Calls Tryz.prog 90 #[.int .i64 i] w fun e w'=>e = .returned (.tuple #[fdv fd0,.bool false])∧Below w.heap.size w w':=by
 have K0:Hid (EnvF ((w.alloc (.cells #[.string ⟨#[]⟩,.string ⟨#[]⟩] 27)).alloc (.cells zerA 133)) [] [(w.heap.size+1,zerA,133),(w.heap.size,#[.string ⟨#[]⟩,.string ⟨#[]⟩],27)]):=Lib.hid (((EnvF.nil w).boxg 27 #[.string ⟨#[]⟩,.string ⟨#[]⟩] (w.heap.size) (by simp)).boxg 133 zerA (w.heap.size+1) (by simp))
 have B0:Hid (Below w.heap.size w ((w.alloc (.cells #[.string ⟨#[]⟩,.string ⟨#[]⟩] 27)).alloc (.cells zerA 133))):=Lib.hid (((Below.refl _ w).alloc (by first | exact Nat.le_refl _ | (simp only[World.size_alloc];omega)) (.cells #[.string ⟨#[]⟩,.string ⟨#[]⟩] 27)).alloc (by first | exact Nat.le_refl _ | (simp only[World.size_alloc];omega)) (.cells zerA 133))
 rcases hi with h | h
 ·have d1:decide (i<1)=true:=decide_eq_true h
  go_enter Tryz.func90,Tryz.ntmps90
  go_wp2_with (first
   | go_skip
   | (refine at_dst 5 (by rfl) ?_;refine wpList_val (by rfl) (sv 0) (by kernel_rfl) ?_)
   | (refine at_dst 6 (by rfl) ?_;refine wpList_val (by rfl) (sv 1) (by kernel_rfl) ?_)
   | (refine at_dst 7 (by rfl) ?_;refine wpList_val (by rfl) (sv 2) (by kernel_rfl) ?_)
   | (refine at_dst 8 (by rfl) ?_;refine wpList_val (by rfl) (sv 3) (by kernel_rfl) ?_)
   | (refine at_dst 9 (by rfl) ?_;refine wpList_val (by rfl) (sv 4) (by kernel_rfl) ?_)
   | (refine at_dst 10 (by rfl) ?_;refine wpList_val (by rfl) (sv 5) (by kernel_rfl) ?_)
   | (refine at_dst 11 (by rfl) ?_;refine wpList_val (by rfl) (sv 6) (by kernel_rfl) ?_)
   | (refine at_dst 12 (by rfl) ?_;refine wpList_val (by rfl) (sv 7) (by kernel_rfl) ?_)
   | (refine at_dst 13 (by rfl) ?_;refine wpList_val (by rfl) (sv 8) (by kernel_rfl) ?_)
   | (refine at_dst 14 (by rfl) ?_;refine wpList_val (by rfl) (sv 9) (by kernel_rfl) ?_)
   | (refine at_dst 15 (by rfl) ?_;refine wpList_val (by rfl) (sv 10) (by kernel_rfl) ?_)
   | (refine at_dst 16 (by rfl) ?_;refine wpList_val (by rfl) (sv 11) (by kernel_rfl) ?_)
   | (refine at_dst 17 (by rfl) ?_;refine wpList_val (by rfl) (sv 12) (by kernel_rfl) ?_)
   | (refine at_dst 18 (by rfl) ?_;refine wpList_val (by rfl) (sv 13) (by kernel_rfl) ?_)
   | (refine at_dst 19 (by rfl) ?_;refine wpList_val (by rfl) (sv 14) (by kernel_rfl) ?_)
   | (refine at_dst 20 (by rfl) ?_;refine wpList_val (by rfl) (sv 15) (by kernel_rfl) ?_)
   | (refine at_dst 21 (by rfl) ?_;refine wpList_val (by rfl) (sv 16) (by kernel_rfl) ?_)
   | (refine at_dst 22 (by rfl) ?_;refine wpList_val (by rfl) (sv 17) (by kernel_rfl) ?_)
   | (refine at_dst 23 (by rfl) ?_;refine wpList_val (by rfl) (sv 18) (by kernel_rfl) ?_)
   | (refine at_dst 24 (by rfl) ?_;refine wpList_val (by rfl) (sv 19) (by kernel_rfl) ?_)
   | (refine at_dst 25 (by rfl) ?_;refine wpList_val (by rfl) statV (by kernel_rfl) ?_)
   | (refine at_store 133 (.tmp 4) (.tmp 25) (by rfl) ?_;refine wpList_put (by rfl) 133 (.tmp 4) (.tmp 25) (by rfl) (w.heap.size+1) 0 (statV) (by rfl) (by rfl) 133 zerA statA (K0.out.row 0 rfl) (of_decide_eq_true (by kernel_rfl)) (by kernel_rfl) infoc_A (by kernel_rfl) ?_;intro w1 hrow hoth hz hbl;have K1:Hid (EnvF w1 [] [(w.heap.size+1,statA,133),(w.heap.size,#[.string ⟨#[]⟩,.string ⟨#[]⟩],27)]):=Lib.hid (K0.out.turn 0 rfl hrow hoth hz);have B1:Hid (Below w.heap.size w w1):=Lib.hid (hbl _ _ (by omega) B0.out);clear hrow hoth hz hbl K0 B0)
   | (refine at_store 27 (.tmp 2) (.tmp 32) (by rfl) ?_;refine wpList_put (by rfl) 27 (.tmp 2) (.tmp 32) (by rfl) (w.heap.size) 0 (.agg #[.string ⟨#[]⟩,.string ⟨#[]⟩]) (by rfl) (by rfl) 27 #[.string ⟨#[]⟩,.string ⟨#[]⟩] #[.string ⟨#[]⟩,.string ⟨#[]⟩] (K1.out.row 1 rfl) (by simp[Value.cells]) (by kernel_rfl) infoc_D (by kernel_rfl) ?_;intro w2 hrow hoth hz hbl;have K2:Hid (EnvF w2 [] [(w.heap.size+1,statA,133),(w.heap.size,#[.string ⟨#[]⟩,.string ⟨#[]⟩],27)]):=Lib.hid (K1.out.turn 1 rfl hrow hoth hz);have B2:Hid (Below w.heap.size w w2):=Lib.hid (hbl _ _ (Nat.le_refl _) B1.out);clear hrow hoth hz hbl K1 B1))
  exact bodyPost_ret (res_cell_tmp rfl _ _ _ _ _ _ rfl (K2.out.row 1 rfl) Tryz.underlying27 rfl infoc_D) rfl ⟨rfl,B2.out⟩
 ·have d1:decide (i<1)=false:=decide_eq_false (by omega)
  have d2:decide (20<i)=true:=decide_eq_true h
  go_enter Tryz.func90,Tryz.ntmps90
  go_wp2_with (first
   | go_skip
   | (refine at_dst 5 (by rfl) ?_;refine wpList_val (by rfl) (sv 0) (by kernel_rfl) ?_)
   | (refine at_dst 6 (by rfl) ?_;refine wpList_val (by rfl) (sv 1) (by kernel_rfl) ?_)
   | (refine at_dst 7 (by rfl) ?_;refine wpList_val (by rfl) (sv 2) (by kernel_rfl) ?_)
   | (refine at_dst 8 (by rfl) ?_;refine wpList_val (by rfl) (sv 3) (by kernel_rfl) ?_)
   | (refine at_dst 9 (by rfl) ?_;refine wpList_val (by rfl) (sv 4) (by kernel_rfl) ?_)
   | (refine at_dst 10 (by rfl) ?_;refine wpList_val (by rfl) (sv 5) (by kernel_rfl) ?_)
   | (refine at_dst 11 (by rfl) ?_;refine wpList_val (by rfl) (sv 6) (by kernel_rfl) ?_)
   | (refine at_dst 12 (by rfl) ?_;refine wpList_val (by rfl) (sv 7) (by kernel_rfl) ?_)
   | (refine at_dst 13 (by rfl) ?_;refine wpList_val (by rfl) (sv 8) (by kernel_rfl) ?_)
   | (refine at_dst 14 (by rfl) ?_;refine wpList_val (by rfl) (sv 9) (by kernel_rfl) ?_)
   | (refine at_dst 15 (by rfl) ?_;refine wpList_val (by rfl) (sv 10) (by kernel_rfl) ?_)
   | (refine at_dst 16 (by rfl) ?_;refine wpList_val (by rfl) (sv 11) (by kernel_rfl) ?_)
   | (refine at_dst 17 (by rfl) ?_;refine wpList_val (by rfl) (sv 12) (by kernel_rfl) ?_)
   | (refine at_dst 18 (by rfl) ?_;refine wpList_val (by rfl) (sv 13) (by kernel_rfl) ?_)
   | (refine at_dst 19 (by rfl) ?_;refine wpList_val (by rfl) (sv 14) (by kernel_rfl) ?_)
   | (refine at_dst 20 (by rfl) ?_;refine wpList_val (by rfl) (sv 15) (by kernel_rfl) ?_)
   | (refine at_dst 21 (by rfl) ?_;refine wpList_val (by rfl) (sv 16) (by kernel_rfl) ?_)
   | (refine at_dst 22 (by rfl) ?_;refine wpList_val (by rfl) (sv 17) (by kernel_rfl) ?_)
   | (refine at_dst 23 (by rfl) ?_;refine wpList_val (by rfl) (sv 18) (by kernel_rfl) ?_)
   | (refine at_dst 24 (by rfl) ?_;refine wpList_val (by rfl) (sv 19) (by kernel_rfl) ?_)
   | (refine at_dst 25 (by rfl) ?_;refine wpList_val (by rfl) statV (by kernel_rfl) ?_)
   | (refine at_store 133 (.tmp 4) (.tmp 25) (by rfl) ?_;refine wpList_put (by rfl) 133 (.tmp 4) (.tmp 25) (by rfl) (w.heap.size+1) 0 (statV) (by rfl) (by rfl) 133 zerA statA (K0.out.row 0 rfl) (of_decide_eq_true (by kernel_rfl)) (by kernel_rfl) infoc_A (by kernel_rfl) ?_;intro w1 hrow hoth hz hbl;have K1:Hid (EnvF w1 [] [(w.heap.size+1,statA,133),(w.heap.size,#[.string ⟨#[]⟩,.string ⟨#[]⟩],27)]):=Lib.hid (K0.out.turn 0 rfl hrow hoth hz);have B1:Hid (Below w.heap.size w w1):=Lib.hid (hbl _ _ (by omega) B0.out);clear hrow hoth hz hbl K0 B0)
   | (refine at_store 27 (.tmp 2) (.tmp 32) (by rfl) ?_;refine wpList_put (by rfl) 27 (.tmp 2) (.tmp 32) (by rfl) (w.heap.size) 0 (.agg #[.string ⟨#[]⟩,.string ⟨#[]⟩]) (by rfl) (by rfl) 27 #[.string ⟨#[]⟩,.string ⟨#[]⟩] #[.string ⟨#[]⟩,.string ⟨#[]⟩] (K1.out.row 1 rfl) (by simp[Value.cells]) (by kernel_rfl) infoc_D (by kernel_rfl) ?_;intro w2 hrow hoth hz hbl;have K2:Hid (EnvF w2 [] [(w.heap.size+1,statA,133),(w.heap.size,#[.string ⟨#[]⟩,.string ⟨#[]⟩],27)]):=Lib.hid (K1.out.turn 1 rfl hrow hoth hz);have B2:Hid (Below w.heap.size w w2):=Lib.hid (hbl _ _ (Nat.le_refl _) B1.out);clear hrow hoth hz hbl K1 B1))
  exact bodyPost_ret (res_cell_tmp rfl _ _ _ _ _ _ rfl (K2.out.row 1 rfl) Tryz.underlying27 rfl infoc_D) rfl ⟨rfl,B2.out⟩
theorem t_size(x:Fd)(w:World)(h:sz x≤4000000000000000000) :
  Calls Tryz.prog 42 #[fdv x] w fun e w'=>e = .returned (.int .i64 (sz x:Int))∧Below w.heap.size w w':=by
 have h1:x.1.size+x.2.size+32≤4000000000000000000:=h
 unfold fdv sz
 go_enter Tryz.func42,Tryz.ntmps42
 go_wp2
 go_ret
 exact⟨by go_num,(Below.refl _ _).alloc (Nat.le_refl _) _⟩
theorem r_size(x:Fd)(w:World)(h:sz x≤4000000000000000000) :
  Calls Tryz.prog 37 #[fdv x] w fun e w'=>e = .returned (.int .i64 (sz x:Int))∧Below w.heap.size w w':=by
 have h1:x.1.size+x.2.size+32≤4000000000000000000:=h
 unfold fdv sz
 go_enter Tryz.func37,Tryz.ntmps37
 go_wp2
 go_ret
 exact⟨by go_num,(Below.refl _ _).alloc (Nat.le_refl _) _⟩
theorem t_bounded(m:Int)(w:World) :
  Calls Tryz.prog 82 #[.int .i64 m] w fun e w'=>e = .returned (.bool (okB m))∧Below w.heap.size w w':=by
 unfold okB
 by_cases h0:0≤m
 ·have d0:decide (0≤m)=true:=decide_eq_true h0
  by_cases h1:m≤4096
  ·have d1:decide (m≤4096)=true:=decide_eq_true h1
   rw[d0,d1]
   go_enter Tryz.func82,Tryz.ntmps82
   go_wp2
   go_ret
   exact⟨rfl,Below.refl _ _⟩
  ·have d1:decide (m≤4096)=false:=decide_eq_false h1
   rw[d0,d1]
   go_enter Tryz.func82,Tryz.ntmps82
   go_wp2
   go_ret
   exact⟨rfl,Below.refl _ _⟩
 ·have d0:decide (0≤m)=false:=decide_eq_false h0
  rw[d0,Bool.false_and]
  go_enter Tryz.func82,Tryz.ntmps82
  go_wp2
  go_ret
  exact⟨rfl,Below.refl _ _⟩
end Go.Proofs.YtahiajeggbpogaaGreatDoor
namespace Go.Proofs.YtahiajeggbpogaaGreatDoor
open Go.RowKit Tb
set_option linter.unusedVariables false
set_option linter.unusedSimpArgs false
theorem t_full(M:Int)(A:Option Addr)(n c:Nat)(xs:List Fd)(w:World)(hA:Fs w w.heap.size A n xs)(hF:full xs≤1000000) :
  Calls Tryz.prog 52 #[.agg #[.int .i64 M,.slice A n c]] w fun e w'=>e = .returned (.int .i64 (full xs:Int))∧Below w.heap.size w w':=by
 have hn:=hA.1
 have hfl:=full_len xs
 have K0:Hid (EnvF (w.alloc (.cells #[.int .i64 M,.slice A n c] 24)) [fF A n xs] [(w.heap.size,#[.int .i64 M,.slice A n c],24)]):=Lib.hid (((EnvF.nil w).addF hA).boxg 24 #[.int .i64 M,.slice A n c] (w.heap.size) (by simp))
 have B0:Hid (Below w.heap.size w (w.alloc (.cells #[.int .i64 M,.slice A n c] 24))):=Lib.hid ((Below.refl _ w).alloc (Nat.le_refl _) (.cells #[.int .i64 M,.slice A n c] 24))
 clear hA
 go_enter Tryz.func52,Tryz.ntmps52
 go_wp2
 go_loopw [3,9] (fun t u wr=>∃j:Nat,j≤n∧t = .int .i64 (full (xs.take j):Int)∧u = .int .i64 j∧EnvF wr [fF A n xs] [(w.heap.size,#[.int .i64 M,.slice A n c],24)]∧Below w.heap.size w wr) (fun _ u _=>n-(intOf u).toNat)
 case atStart=>exact⟨0,Nat.zero_le _,rfl,rfl,K0.out,B0.out⟩
 case round=>
  obtain⟨j,hj,rfl,rfl,hk,hbel⟩:=hrel
  have K1:=Lib.hid hk
  have B1:=Lib.hid hbel
  clear hk hbel K0 B0
  by_cases hlt:j<n
  ·
   obtain⟨b,o,rfl,hb,hcc⟩:=fs_cell (K1.out.fs (A:=A) (n:=n) (xs:=xs) (by simp)) (by omega)
   obtain⟨x,hx,h1,h2⟩:=hcc j hlt
   rw[←Nat.add_assoc] at h2
   clear hcc
   have hs1:=full_take_succ hx
   have hs2:=full_take xs (j+1)
   have hsz:sz x≤4000000000000000000:=by omega
   have HS1:=Lib.hid hs1
   have hle:=B1.out.size
   go_wp2_with (first
    | go_skip
    | (go_at_call 42;(have hc:=t_size x (wr.alloc (.cells #[.string x.1,.string x.2] 27)) hsz;unfold fdv at hc;(with_reducible refine hc.mono ?_);clear hc);rintro e w2 ⟨rfl,hb2⟩;have K2:=Lib.hid ((K1.out.al (.cells #[.string x.1,.string x.2] 27)).on hb2);have B2:=Lib.hid (below_step (B1.out.alloc hle (.cells #[.string x.1,.string x.2] 27)) hb2);clear hb2 h1 h2))
   go_roundw
   case rel=>exact⟨j+1,by omega,by rw[HS1.out];go_num,by go_num,K2.out,B2.out⟩
   case measure=>simp[intOf];omega
  ·obtain rfl:j=n:=by omega
   go_wp2
   go_ret
   exact⟨(by rw[List.take_of_length_le (by omega)];rfl),B1.out⟩
theorem r_full(M:Int)(A:Option Addr)(n c:Nat)(xs:List Fd)(w:World)(hA:Fs w w.heap.size A n xs)(hF:full xs≤1000000) :
  Calls Tryz.prog 58 #[.agg #[.int .i64 M,.slice A n c]] w fun e w'=>e = .returned (.int .i64 (full xs:Int))∧Below w.heap.size w w':=by
 have hn:=hA.1
 have hfl:=full_len xs
 have K0:Hid (EnvF (w.alloc (.cells #[.int .i64 M,.slice A n c] 24)) [fF A n xs] [(w.heap.size,#[.int .i64 M,.slice A n c],24)]):=Lib.hid (((EnvF.nil w).addF hA).boxg 24 #[.int .i64 M,.slice A n c] (w.heap.size) (by simp))
 have B0:Hid (Below w.heap.size w (w.alloc (.cells #[.int .i64 M,.slice A n c] 24))):=Lib.hid ((Below.refl _ w).alloc (Nat.le_refl _) (.cells #[.int .i64 M,.slice A n c] 24))
 clear hA
 go_enter Tryz.func58,Tryz.ntmps58
 go_wp2
 go_loopw [3,4] (fun t u wr=>∃j:Nat,j≤n∧t = .int .i64 (full (xs.take j):Int)∧u = .int .i64 j∧EnvF wr [fF A n xs] [(w.heap.size,#[.int .i64 M,.slice A n c],24)]∧Below w.heap.size w wr) (fun _ u _=>n-(intOf u).toNat)
 case atStart=>exact⟨0,Nat.zero_le _,rfl,rfl,K0.out,B0.out⟩
 case round=>
  obtain⟨j,hj,rfl,rfl,hk,hbel⟩:=hrel
  have K1:=Lib.hid hk
  have B1:=Lib.hid hbel
  have hr:=K1.out.row 0 rfl
  have HR:=Lib.hid hr
  have c0:=(cells2_row hr).1
  have c1:=(cells2_row hr).2
  clear hk hbel K0 B0 hr
  by_cases hlt:j<n
  ·
   obtain⟨b,o,rfl,hb,hcc⟩:=fs_cell (K1.out.fs (A:=A) (n:=n) (xs:=xs) (by simp)) (by omega)
   obtain⟨x,hx,h1,h2⟩:=hcc j hlt
   rw[←Nat.add_assoc] at h2
   clear hcc
   have hs1:=full_take_succ hx
   have hs2:=full_take xs (j+1)
   have hsz:sz x≤4000000000000000000:=by omega
   have HS1:=Lib.hid hs1
   have hle:=B1.out.size
   go_wp2_with (first
    | go_skip
    | (go_at_call 37;(have hc:=r_size x wr hsz;unfold fdv at hc;(with_reducible refine hc.mono ?_);clear hc);rintro e w2 ⟨rfl,hb2⟩;have K2:=Lib.hid (K1.out.on hb2);have B2:=Lib.hid (below_step B1.out hb2);clear hb2 h1 h2 c0 c1))
   go_roundw
   case rel=>exact⟨j+1,by omega,by rw[HS1.out];go_num,by go_num,K2.out,B2.out⟩
   case measure=>simp[intOf];omega
  ·obtain rfl:j=n:=by omega
   go_wp2
   go_ret
   exact⟨(by rw[List.take_of_length_le (by omega)];rfl),B1.out⟩
end Go.Proofs.YtahiajeggbpogaaGreatDoor
namespace Go.Proofs.YtahiajeggbpogaaGreatDoor
open Go.RowKit Tb
set_option linter.unusedVariables false
set_option linter.unusedSimpArgs false
theorem Tb.fit_at{M:Int}{xs:List Fd}{j:Nat}(hM:0≤M)(hj:j<xs.length)(h1:(full (xs.take j):Int)≤M)(h2 : ¬(full (xs.take (j+1)):Int)≤M):fit M xs=j:=by
 have a:=(fit_iff hM (Nat.le_of_lt hj)).1 h1
 have b : ¬(j+1≤fit M xs):=fun h=>h2 ((fit_iff hM (show j+1≤xs.length from hj)).2 h)
 omega
theorem Tb.take_snoc{xs:List Fd}{j:Nat}{x:Fd}(h:xs[j]? = some x):xs.take j++[x]=xs.take (j+1):=by
 obtain⟨hl,rfl⟩:=List.getElem?_eq_some_iff.1 h
 simp
theorem t_evicted(M:Int)(A:Option Addr)(n c:Nat)(xs:List Fd)(w:World)(hA:Fs w w.heap.size A n xs)(hF:full xs≤1000000)(hM:0≤M) :
  Calls Tryz.prog 83 #[.int .i64 M,.slice A n c] w fun e w'=>∃v,e = .returned (.agg #[.int .i64 M,v])∧OwnF w' w.heap.size 27 v (keep M xs)∧Below w.heap.size w w':=by
 obtain⟨i0,hi,hz0,hz1,hz2⟩:=info_parts info_fld
 have hinf:=Lib.hid (And.intro hi (And.intro hz0 (And.intro hz1 hz2)))
 clear hi hz0 hz1 hz2
 have hn:=hA.1
 have hfl:=full_len xs
 have HA:=Lib.hid hA
 have hr0:((w.alloc (.cells #[.int .i64 0,.slice none 0 0] 24)).alloc (.cells #[.int .i64 M,.slice none 0 0] 24)).heap[w.heap.size]? = some (.cells #[.int .i64 0,.slice none 0 0] 24):=(Below.heap_alloc _ _ _ (by simp)).trans (World.alloc_heap_new _ _)
 have hr1:((w.alloc (.cells #[.int .i64 0,.slice none 0 0] 24)).alloc (.cells #[.int .i64 M,.slice none 0 0] 24)).heap[w.heap.size+1]? = some (.cells #[.int .i64 M,.slice none 0 0] 24):=by
  have h:=World.alloc_heap_new (w.alloc (.cells #[.int .i64 0,.slice none 0 0] 24)) (.cells #[.int .i64 M,.slice none 0 0] 24)
  rwa [World.size_alloc] at h
 have B0:Hid (Below w.heap.size w ((w.alloc (.cells #[.int .i64 0,.slice none 0 0] 24)).alloc (.cells #[.int .i64 M,.slice none 0 0] 24))):=Lib.hid (((Below.refl _ w).alloc (Nat.le_refl _) (.cells #[.int .i64 0,.slice none 0 0] 24)).alloc (by simp) (.cells #[.int .i64 M,.slice none 0 0] 24))
 have hz:w.heap.size+2≤((w.alloc (.cells #[.int .i64 0,.slice none 0 0] 24)).alloc (.cells #[.int .i64 M,.slice none 0 0] 24)).heap.size:=by simp
 have HR:=Lib.hid (And.intro hr0 hr1)
 clear hA hr0 hr1
 go_enter Tryz.func83,Tryz.ntmps83
 go_wp2
 refine wp_scope_forward 0 rfl ?_
 go_wp2
 go_loopw [6,13] (fun t u wr=>∃(j:Nat) (v:Value),j≤n∧t = .int .i64 (full (xs.take j):Int)∧u = .int .i64 j∧(full (xs.take j):Int)≤M∧wr.heap[w.heap.size]? = some (.cells #[.int .i64 0,.slice none 0 0] 24)∧wr.heap[w.heap.size+1]? = some (.cells #[.int .i64 M,v] 24)∧OwnF wr (w.heap.size+2) 27 v (xs.take j)∧w.heap.size+2≤wr.heap.size∧Below w.heap.size w wr) (fun _ u _=>n-(intOf u).toNat)
 case atStart=>exact⟨0,_,Nat.zero_le _,rfl,rfl,by simpa [full] using hM,HR.out.1,HR.out.2,OwnF.nil_ _ _ _,hz,B0.out⟩
 case round=>
  obtain⟨j,v,hj,rfl,rfl,hfit,hr0,hr1,hown,hsz2,hbel⟩:=hrel
  have H0:=Lib.hid hr0
  have H1:=Lib.hid hr1
  have B1:=Lib.hid hbel
  have HO:=Lib.hid hown
  have HF:=Lib.hid hfit
  obtain⟨Av,cv,rfl,_⟩:=hown.form2 (n:=j) (by rw[List.length_take];omega)
  clear hr0 hr1 hbel B0 hown hz hfit HR
  by_cases hlt:j<n
  ·obtain⟨b,o,rfl,hb,hcc⟩:=fs_cell ((HA.out.below B1.out).more B1.out.size) (by omega)
   obtain⟨x,hx,h1,h2⟩:=hcc j hlt
   rw[←Nat.add_assoc] at h2
   clear hcc
   have hs1:=full_take_succ hx
   have hs2:=full_take xs (j+1)
   have hsz:sz x≤4000000000000000000:=by omega
   have hle:=B1.out.size
   have HS1:=Lib.hid hs1
   have harm : ∀w2,Below (wr.alloc (.cells #[.string x.1,.string x.2] 27)).heap.size (wr.alloc (.cells #[.string x.1,.string x.2] 27)) w2→(w2.cell? ⟨wr.heap.size,0,none⟩=some (.string x.1)∧w2.cell? ⟨wr.heap.size,1,none⟩=some (.string x.2))∧w2.heap[w.heap.size]? = some (.cells #[.int .i64 0,.slice none 0 0] 24)∧w2.heap[w.heap.size+1]? = some (.cells #[.int .i64 M,.slice Av j cv] 24)∧OwnF w2 (w.heap.size+2) 27 (.slice Av j cv) (xs.take j)∧w.heap.size+2≤w2.heap.size∧Below w.heap.size w w2:=fun w2 hb2=>by
    obtain⟨g1,g2⟩:=cells2_row (World.alloc_heap_new wr (.cells #[.string x.1,.string x.2] 27))
    have hz4:(wr.alloc (.cells #[.string x.1,.string x.2] 27)).heap.size=wr.heap.size+1:=World.size_alloc _ _
    have hz5:=hb2.size
    exact⟨⟨(hb2.cell (p:=⟨wr.heap.size,0,none⟩) (by simp)).trans g1,(hb2.cell (p:=⟨wr.heap.size,1,none⟩) (by simp)).trans g2⟩,
     (hb2.block _ (by omega)).trans ((Below.heap_alloc _ _ _ (by omega)).trans H0.out),(hb2.block _ (by omega)).trans ((Below.heap_alloc _ _ _ (by omega)).trans H1.out),
     (HO.out.alloc (.cells #[.string x.1,.string x.2] 27)).kept hb2,by omega,below_step (B1.out.alloc hle (.cells #[.string x.1,.string x.2] 27)) hb2⟩
   have HARM:=Lib.hid harm
   clear harm
   by_cases hgt:(full (xs.take (j+1)):Int)≤M
   ·have d2:decide (M<(full (xs.take j):Int)+(sz x:Int))=false:=decide_eq_false (by omega)
    have hgt':=hgt
    have HT:=Lib.hid (take_snoc hx)
    have HG:=Lib.hid hgt
    clear B1 HO HF H0 H1 hgt hgt' hx
    go_wp2_with (first
     | go_skip
     | (go_at_call 42;(have hc:=t_size x (wr.alloc (.cells #[.string x.1,.string x.2] 27)) hsz;unfold fdv at hc;(with_reducible refine hc.mono ?_);clear hc);rintro e w2 ⟨rfl,hb2⟩;obtain⟨⟨q1,q2⟩,k0,k1,o2,z2,b2⟩:=HARM.out w2 hb2;have R0:=Lib.hid k0;have R1:=Lib.hid k1;have O2:=Lib.hid o2;have Z2:=Lib.hid z2;have B2:=Lib.hid b2;have r1:=(cells2_row k1).2;clear hb2 h1 h2 k0 k1 o2 z2 b2 HARM)
     | (at_builtin;refine wpList_append_flds _ rfl (.tmp 25) (.tmp 27) 22 rfl (w.heap.size+2) 27 i0 Tryz.underlying22 hinf.out.1 hinf.out.2.1 hinf.out.2.2.1 hinf.out.2.2.2 _ (xs.take j) rfl (O2.out.alloc _) _ _ 1 1 [x] rfl (fs_lit w2 _ [x] _ _ rfl (by simp[fdc])) (fun h=>by cases h) (by rw[List.length_take];omega) (by have:=Z2.out;simp;omega) ?_;intro v4 w4 hown4 hb4 hg4 _;obtain⟨A4,c4,rfl,_⟩:=hown4.form2 (n:=j+1) (by rw[List.length_append,List.length_take,List.length_singleton];omega);have O4:=Lib.hid hown4;have B4:=Lib.hid hb4;have hr4:=(hb4.block (w.heap.size+1) (by omega)).trans ((Below.heap_alloc _ _ _ (by have:=Z2.out;omega)).trans R1.out);have hr5:=(hb4.block (w.heap.size) (by omega)).trans ((Below.heap_alloc _ _ _ (by have:=Z2.out;omega)).trans R0.out);have R4:=Lib.hid hr4;have R5:=Lib.hid hr5;clear hown4 hb4 hg4 hr4 hr5 R0 R1 q1 q2 r1)
     | (refine at_store 22 (.tmp 29) (.tmp 28) (by rfl) ?_;refine wpList_put (by rfl) 22 (.tmp 29) (.tmp 28) (by rfl) (w.heap.size+1) 1 (.slice A4 (j+1) c4) (by rfl) (by rfl) 24 #[.int .i64 M,.slice Av j cv] #[.int .i64 M,.slice A4 (j+1) c4] R4.out (by simp[Value.cells]) (by kernel_rfl) infoc_L (by kernel_rfl) ?_;intro w5 hrow hoth hz5 hbl;have H5:=Lib.hid (And.intro hrow (And.intro hoth (And.intro hz5 hbl)));clear hrow hoth hz5 hbl))
    go_roundw
    case rel=>
     obtain⟨hrow,hoth,hz5,hbl⟩:=H5.out
     have hb4:=B4.out
     have hb6:Below (w.heap.size+2) w2 w4:=((Below.refl _ w2).alloc Z2.out _).trans hb4
     exact⟨j+1,.slice A4 (j+1) c4,by omega,by rw[HS1.out];go_num,by go_num,HG.out,(hoth _ (by omega)).trans R5.out,hrow,by rw[←HT.out];exact O4.out.above fun k hk=>hoth k (by omega),by have:=hb6.size;have:=Z2.out;omega,hbl _ _ (by omega) (B2.out.trans (hb6.mono (by omega)))⟩
    case measure=>simp[intOf];omega
   ·have d2:decide (M<(full (xs.take j):Int)+(sz x:Int))=true:=decide_eq_true (by omega)
    have hkeep:keep M xs=xs.take j:=by unfold keep;rw[fit_at hM (by omega) HF.out hgt]
    have HKP:=Lib.hid hkeep
    clear B1 HO HF H0 H1 hgt hkeep
    go_wp2_with (first
     | go_skip
     | (go_at_call 42;(have hc:=t_size x (wr.alloc (.cells #[.string x.1,.string x.2] 27)) hsz;unfold fdv at hc;(with_reducible refine hc.mono ?_);clear hc);rintro e w2 ⟨rfl,hb2⟩;obtain⟨⟨q1,q2⟩,k0,k1,o2,z2,b2⟩:=HARM.out w2 hb2;have R0:=Lib.hid k0;have R1:=Lib.hid k1;have O2:=Lib.hid o2;have Z2:=Lib.hid z2;have B2:=Lib.hid b2;have r1:=(cells2_row k1);clear hb2 h1 h2 k0 k1 o2 z2 b2 HARM))
    go_step3
    refine⟨rfl,?_⟩
    go_wp2_with (first
     | go_skip
     | (refine at_load 24 (.tmp 5) (by rfl) ?_;refine wpList_load_row (by rfl) 24 (.tmp 5) (by rfl) (w.heap.size+1) (by rfl) 24 #[.int .i64 M,.slice Av j cv] (0,0) _ R1.out Tryz.underlying24 (by rfl) infoc_T ?_)
     | (refine at_store 24 (.tmp 4) (.tmp 31) (by rfl) ?_;refine wpList_put (by rfl) 24 (.tmp 4) (.tmp 31) (by rfl) (w.heap.size) 0 (.agg #[.int .i64 M,.slice Av j cv]) (by rfl) (by rfl) 24 #[.int .i64 0,.slice none 0 0] #[.int .i64 M,.slice Av j cv] R0.out (by simp[Value.cells]) (by kernel_rfl) infoc_T (by kernel_rfl) ?_;intro w5 hrow hoth hz5 hbl;have H5:=Lib.hid (And.intro hrow (And.intro hoth (And.intro hz5 hbl)));clear hrow hoth hz5 hbl))
    rw[jump_ret]
    obtain⟨hrow,hoth,hz5,hbl⟩:=H5.out
    refine bodyPost_ret (res_cell1 rfl _ _ _ _ _ _ rfl hrow Tryz.underlying24 rfl infoc_T) rfl ⟨_,rfl,?_,hbl _ _ (Nat.le_refl _) B2.out⟩
    rw[HKP.out]
    exact(O2.out.above fun k hk=>hoth k (by omega)).less (by omega)
  ·obtain rfl:j=n:=by omega
   go_wp2
   refine wp_label ?_
   go_wp2_with (first
    | go_skip
    | (refine at_load 24 (.tmp 5) (by rfl) ?_;refine wpList_load_row (by rfl) 24 (.tmp 5) (by rfl) (w.heap.size+1) (by rfl) 24 #[.int .i64 M,.slice Av j cv] (0,0) _ H1.out Tryz.underlying24 (by rfl) infoc_T ?_)
    | (refine at_store 24 (.tmp 4) (.tmp 31) (by rfl) ?_;refine wpList_put (by rfl) 24 (.tmp 4) (.tmp 31) (by rfl) (w.heap.size) 0 (.agg #[.int .i64 M,.slice Av j cv]) (by rfl) (by rfl) 24 #[.int .i64 0,.slice none 0 0] #[.int .i64 M,.slice Av j cv] H0.out (by simp[Value.cells]) (by kernel_rfl) infoc_T (by kernel_rfl) ?_;intro w5 hrow hoth hz5 hbl;have H5:=Lib.hid (And.intro hrow (And.intro hoth (And.intro hz5 hbl)));clear hrow hoth hz5 hbl))
   rw[jump_ret]
   obtain⟨hrow,hoth,hz5,hbl⟩:=H5.out
   refine bodyPost_ret (res_cell1 rfl _ _ _ _ _ _ rfl hrow Tryz.underlying24 rfl infoc_T) rfl ⟨_,rfl,?_,hbl _ _ (Nat.le_refl _) B1.out⟩
   rw[keep_all (by have h:=HF.out;rwa [List.take_of_length_le (by omega)] at h)]
   have hO:=HO.out
   rw[List.take_of_length_le (by omega)] at hO
   exact(hO.above fun k hk=>hoth k (by omega)).less (by omega)
end Go.Proofs.YtahiajeggbpogaaGreatDoor
namespace Go.Proofs.YtahiajeggbpogaaGreatDoor
open Go.RowKit Tb
set_option linter.unusedVariables false
set_option linter.unusedSimpArgs false
def Tb.lenAt(g:Nat)(w:World):Nat:=match w.cell? ⟨g,1,none⟩ with
 | some (.slice _ m _)=>m
 | _=>0
theorem Tb.lenAt_eq{g:Nat}{w:World}{a:Value}{A:Option Addr}{m c:Nat}{t:TypeId}(h:w.heap[g]? = some (.cells #[a,.slice A m c] t)):lenAt g w=m:=by
 unfold lenAt
 rw[(cells2_row h).2]
theorem Fs.take{w:World}{B n:Nat}{A:Option Addr}{xs:List Fd}(h:Fs w B A n xs)(k:Nat)(hk:k≤n):Fs w B A k (xs.take k):=
 ⟨by rw[List.length_take,h.1];exact Nat.min_eq_left hk,fun hn=>by
  obtain⟨b,o,e,hb,hc⟩:=h.2 (by omega)
  refine⟨b,o,e,hb,fun j hj=>?_⟩
  rw[List.getElem?_take_of_lt hj]
  exact hc j (by omega)⟩
theorem flatMap_take(xs:List Fd)(k:Nat):(xs.take k).flatMap fdc=(xs.flatMap fdc).take (k*2):=by
 induction xs generalizing k with
 | nil=>simp
 | cons x xs ih=>
  cases k with
  | zero=>simp
  | succ k=>rw[List.take_succ_cons,List.flatMap_cons,List.flatMap_cons,ih,show(k+1)*2=k*2+1+1 by omega];rfl
theorem OwnF.take{w:World}{B n c:Nat}{t:TypeId}{A:Option Addr}{xs:List Fd}(h:OwnF w B t (.slice A n c) xs)(k:Nat)(hk:k≤n):OwnF w B t (.slice A k c) (xs.take k):=by
 have hl:=h.form
 obtain⟨A',c',e,_⟩:=hl
 cases e
 have hlen:(xs.take k).length=k:=by rw[List.length_take];omega
 unfold OwnF
 rw[hlen,flatMap_take]
 refine⟨by rw[List.length_take,fcs_len];omega,?_⟩
 rcases h.2 with ⟨e,h0⟩ | ⟨g,cap,cur,e,hBg,hg,hle,hmax,hs,htake⟩
 ·simp only[Value.slice.injEq] at e
  obtain⟨rfl,_,rfl⟩:=e
  obtain rfl:k=0:=by omega
  exact .inl ⟨rfl,rfl⟩
 ·cases e
  refine .inr ⟨g,c,cur,rfl,hBg,hg,by omega,hmax,hs,?_⟩
  rw[←htake,List.take_take]
  congr 1
  omega
theorem OwnF.fs{w:World}{B n c:Nat}{t:TypeId}{A:Option Addr}{xs:List Fd}(h:OwnF w B t (.slice A n c) xs)(hl:xs.length=n):Fs w w.heap.size A n xs:=by
 obtain⟨A',c',e,_,_,h3⟩:=h.form2 hl
 cases e
 exact h3
theorem r_evicted(M:Int)(A:Option Addr)(n c:Nat)(xs:List Fd)(w:World)(hA:Fs w w.heap.size A n xs)(hN:A=none→c=0)(hF:full xs≤1000000)(hM:0≤M) :
  Calls Tryz.prog 64 #[.agg #[.int .i64 M,.slice A n c]] w fun e w'=>∃v,e = .returned (.agg #[.int .i64 M,v])∧OwnF w' w.heap.size 27 v (keep M xs)∧Below w.heap.size w w':=by
 obtain⟨i0,hi,hz0,hz1,hz2⟩:=info_parts info_fld
 have hinf:=Lib.hid (And.intro hi (And.intro hz0 (And.intro hz1 hz2)))
 clear hi hz0 hz1 hz2
 have hn:=hA.1
 have hfl:=full_len xs
 have hfu:=fit_le M xs
 have hN':=Lib.hid hN
 have hr0:((w.alloc (.cells #[.int .i64 M,.slice A n c] 24)).alloc (.cells #[.int .i64 0,.slice none 0 0] 24)).heap[w.heap.size]? = some (.cells #[.int .i64 M,.slice A n c] 24):=(Below.heap_alloc _ _ _ (by simp)).trans (World.alloc_heap_new _ _)
 have hr1:((w.alloc (.cells #[.int .i64 M,.slice A n c] 24)).alloc (.cells #[.int .i64 0,.slice none 0 0] 24)).heap[w.heap.size+1]? = some (.cells #[.int .i64 0,.slice none 0 0] 24):=by
  have h:=World.alloc_heap_new (w.alloc (.cells #[.int .i64 M,.slice A n c] 24)) (.cells #[.int .i64 0,.slice none 0 0] 24)
  rwa [World.size_alloc] at h
 have B0:Hid (Below w.heap.size w ((w.alloc (.cells #[.int .i64 M,.slice A n c] 24)).alloc (.cells #[.int .i64 0,.slice none 0 0] 24))):=Lib.hid (((Below.refl _ w).alloc (Nat.le_refl _) (.cells #[.int .i64 M,.slice A n c] 24)).alloc (by simp) (.cells #[.int .i64 0,.slice none 0 0] 24))
 have hz:((w.alloc (.cells #[.int .i64 M,.slice A n c] 24)).alloc (.cells #[.int .i64 0,.slice none 0 0] 24)).heap.size=w.heap.size+1+1:=by simp
 have HZ:=Lib.hid hz
 have HR0:=Lib.hid hr0
 have HR1:=Lib.hid hr1
 have HA0:=Lib.hid ((hA.on B0.out).alloc (Nat.le_refl _) (.cells #[] 27))
 have r1:=(cells2_row hr0).2
 have r1':(((w.alloc (.cells #[.int .i64 M,.slice A n c] 24)).alloc (.cells #[.int .i64 0,.slice none 0 0] 24)).alloc (.cells #[] 27)).cell? ⟨w.heap.size,1,none⟩=some (.slice A n c):=(World.cell?_alloc_lt _ _ ⟨w.heap.size,1,none⟩ (by simp;omega)).trans r1
 clear hA hN hr0 hr1 hz r1
 go_enter Tryz.func64,Tryz.ntmps64
 go_wp2_with (first
  | go_skip
  | (at_builtin;refine wpList_append_flds _ rfl (.tmp 3) (.tmp 5) 22 rfl (w.heap.size+1+1) 27 i0 Tryz.underlying22 hinf.out.1 hinf.out.2.1 hinf.out.2.2.1 hinf.out.2.2.2 _ [] rfl (OwnF.lit ((w.alloc (.cells #[.int .i64 M,.slice A n c] 24)).alloc (.cells #[.int .i64 0,.slice none 0 0] 24)) 27 _ (Nat.le_of_eq HZ.out.symm) (w.heap.size+1+1) HZ.out) _ A n c xs rfl HA0.out hN'.out (by simp;omega) (by have:=HZ.out;rw[World.size_alloc];omega) ?_;intro v4 w4 hown4 hb4 hg4 _;rw[List.nil_append] at hown4;obtain⟨A4,c4,rfl,_⟩:=hown4.form2 (n:=n) hn;have O4:=Lib.hid hown4;have hb6:=((Below.refl (w.heap.size+1+1) ((w.alloc (.cells #[.int .i64 M,.slice A n c] 24)).alloc (.cells #[.int .i64 0,.slice none 0 0] 24))).alloc (Nat.le_of_eq HZ.out.symm) (.cells #[] 27)).trans hb4;have B4:=Lib.hid (B0.out.trans (hb6.mono (by omega)));have R4:=Lib.hid ((hb6.block (w.heap.size) (by omega)).trans HR0.out);have R5:=Lib.hid ((hb6.block (w.heap.size+1) (by omega)).trans HR1.out);have Z4:=Lib.hid (show w.heap.size+1+1≤w4.heap.size from Nat.le_trans (Nat.le_of_eq HZ.out.symm) hb6.size);clear hown4 hb4 hg4 hb6 HR0 HR1 HA0 r1' B0 HZ)
  | (refine at_store 22 (.tmp 7) (.tmp 6) (by rfl) ?_;refine wpList_put (by rfl) 22 (.tmp 7) (.tmp 6) (by rfl) (w.heap.size) 1 (.slice A4 n c4) (by rfl) (by rfl) 24 #[.int .i64 M,.slice A n c] #[.int .i64 M,.slice A4 n c4] R4.out (by simp[Value.cells]) (by kernel_rfl) infoc_L (by kernel_rfl) ?_;intro w5 hrow hoth hz5 hbl;have H5:=Lib.hid (And.intro hrow (And.intro ((hoth (w.heap.size+1) (by omega)).trans R5.out) (And.intro (O4.out.above fun k hk=>hoth k (by omega)) (And.intro (show w.heap.size+1+1≤w5.heap.size by have:=Z4.out;omega) (hbl _ _ (Nat.le_refl _) B4.out)))));clear hrow hoth hz5 hbl O4 B4 R4 R5 Z4))
 simp only[Act.put]
 go_loopw [8] (fun t wr=>∃j:Nat,fit M xs≤j∧j≤n∧wr.heap[w.heap.size]? = some (.cells #[.int .i64 M,.slice A4 j c4] 24)∧wr.heap[w.heap.size+1]? = some (.cells #[.int .i64 0,.slice none 0 0] 24)∧OwnF wr (w.heap.size+1+1) 27 (.slice A4 n c4) xs∧w.heap.size+1+1≤wr.heap.size∧Below w.heap.size w wr) (fun _ wr=>Tb.lenAt (w.heap.size) wr)
 case atStart=>exact⟨n,by omega,Nat.le_refl _,H5.out⟩
 case round=>
  obtain⟨j,hfj,hj,hr0,hr1,hown,hsz,hbel⟩:=hrel
  have arm : ∀(wa wb:World),(wa.heap[w.heap.size]? = some (.cells #[.int .i64 M,.slice A4 j c4] 24)∧wa.heap[w.heap.size+1]? = some (.cells #[.int .i64 0,.slice none 0 0] 24)∧OwnF wa (w.heap.size+1+1) 27 (.slice A4 n c4) xs∧w.heap.size+1+1≤wa.heap.size∧Below w.heap.size w wa)→Below wa.heap.size wa wb→(wb.heap[w.heap.size]? = some (.cells #[.int .i64 M,.slice A4 j c4] 24)∧wb.heap[w.heap.size+1]? = some (.cells #[.int .i64 0,.slice none 0 0] 24)∧OwnF wb (w.heap.size+1+1) 27 (.slice A4 n c4) xs∧w.heap.size+1+1≤wb.heap.size∧Below w.heap.size w wb):=fun wa wb h hb=>⟨(hb.block _ (by omega)).trans h.1,(hb.block _ (by omega)).trans h.2.1,h.2.2.1.kept hb,Nat.le_trans h.2.2.2.1 hb.size,below_step h.2.2.2.2 hb⟩
  have ARM:=Lib.hid arm
  clear arm
  have HR0:=Lib.hid hr0
  have SH0:Hid (wr.cell? ⟨w.heap.size,0,none⟩=some (.int .i64 M)∧wr.cell? ⟨w.heap.size,1,none⟩=some (.slice A4 j c4)):=Lib.hid (cells2_row hr0)
  have SH:Hid (wr.drew.cell? ⟨w.heap.size,0,none⟩=some (.int .i64 M)∧wr.drew.cell? ⟨w.heap.size,1,none⟩=some (.slice A4 j c4)):=SH0
  have BL:Hid (wr.drew.heap[w.heap.size]? = some (.cells #[.int .i64 M,.slice A4 j c4] 24)∧wr.drew.heap[w.heap.size+1]? = some (.cells #[.int .i64 0,.slice none 0 0] 24)∧OwnF wr.drew (w.heap.size+1+1) 27 (.slice A4 n c4) xs∧w.heap.size+1+1≤wr.drew.heap.size∧Below w.heap.size w wr.drew):=Lib.hid ⟨hr0,hr1,hown.drew,hsz,hbel.drew⟩
  have hft:=full_take xs j
  clear H5 hr0 hr1 hown hsz hbel
  by_cases hgt:(full (xs.take j):Int)≤M
  ·have hjf:j=fit M xs:=by have:=(fit_iff hM (by omega)).1 hgt;omega
   have d2:decide (M<(full (xs.take j):Int))=false:=decide_eq_false (by omega)
   have HJ:=Lib.hid hjf
   clear hgt hjf hfj
   go_wp2
   go_region_held3 (fun W'=>W'.cell? ⟨w.heap.size,0,none⟩=some (.int .i64 M)∧W'.cell? ⟨w.heap.size,1,none⟩=some (.slice A4 j c4)) (first | with_reducible exact SH.out | with_reducible exact SH0.out)
    ((go_at_call 58;(have hc:=r_full M A4 j c4 (xs.take j) _ (((BL.out.2.2.1.fs hn).take j hj)) (by omega);(with_reducible refine hc.mono ?_);clear hc);rintro e1 w9 ⟨rfl,hb⟩;replace BL:Hid (w9.heap[w.heap.size]? = some (.cells #[.int .i64 M,.slice A4 j c4] 24)∧w9.heap[w.heap.size+1]? = some (.cells #[.int .i64 0,.slice none 0 0] 24)∧OwnF w9 (w.heap.size+1+1) 27 (.slice A4 n c4) xs∧w.heap.size+1+1≤w9.heap.size∧Below w.heap.size w w9):=Lib.hid (ARM.out _ _ BL.out hb);replace SH:Hid (w9.cell? ⟨w.heap.size,0,none⟩=some (.int .i64 M)∧w9.cell? ⟨w.heap.size,1,none⟩=some (.slice A4 j c4)):=Lib.hid (cells2_row BL.out.1);clear hb))
   all_goals
    have h0:=Lib.hid BL.out.1
    have h1:=Lib.hid BL.out.2.1
    go_wp2_with (first
     | go_skip
     | (refine at_load 24 (.tmp 1) (by rfl) ?_;refine wpList_load_row (by rfl) 24 (.tmp 1) (by rfl) (w.heap.size) (by rfl) 24 #[.int .i64 M,.slice A4 j c4] (0,0) _ h0.out Tryz.underlying24 (by rfl) infoc_T ?_)
     | (refine at_store 24 (.tmp 2) (.tmp 21) (by rfl) ?_;refine wpList_put (by rfl) 24 (.tmp 2) (.tmp 21) (by rfl) (w.heap.size+1) 0 (.agg #[.int .i64 M,.slice A4 j c4]) (by rfl) (by rfl) 24 #[.int .i64 0,.slice none 0 0] #[.int .i64 M,.slice A4 j c4] h1.out (by simp[Value.cells]) (by kernel_rfl) infoc_T (by kernel_rfl) ?_;intro w5 hrow hoth hz5 hbl;have H5:=Lib.hid (And.intro hrow (And.intro hoth (And.intro hz5 hbl)));clear hrow hoth hz5 hbl))
    obtain⟨hrow,hoth,hz5,hbl⟩:=H5.out
    refine bodyPost_ret (res_cell1 rfl _ _ _ _ _ _ rfl hrow Tryz.underlying24 rfl infoc_T) rfl ⟨_,rfl,?_,hbl _ _ (by omega) BL.out.2.2.2.2⟩
    have hO:=BL.out.2.2.1.take j hj
    unfold keep
    rw[←HJ.out]
    exact(hO.above fun k hk=>hoth k (by omega)).less (by omega)
  ·have hjf:fit M xs<j:=by
    rcases Nat.lt_or_ge (fit M xs) j with h | h
    ·exact h
    ·exact absurd ((fit_iff hM (by omega)).2 h) hgt
   have d2:decide (M<(full (xs.take j):Int))=true:=decide_eq_true (by omega)
   obtain⟨k,rfl⟩ : ∃k,j=k+1:=⟨j-1,by omega⟩
   have HJ:=Lib.hid hjf
   clear hgt hjf hfj
   go_wp2
   go_region_held3 (fun W'=>W'.cell? ⟨w.heap.size,0,none⟩=some (.int .i64 M)∧W'.cell? ⟨w.heap.size,1,none⟩=some (.slice A4 (k+1) c4)) (first | with_reducible exact SH.out | with_reducible exact SH0.out)
    ((go_at_call 58;(have hc:=r_full M A4 (k+1) c4 (xs.take (k+1)) _ (((BL.out.2.2.1.fs hn).take (k+1) hj)) (by omega);(with_reducible refine hc.mono ?_);clear hc);rintro e1 w9 ⟨rfl,hb⟩;replace BL:Hid (w9.heap[w.heap.size]? = some (.cells #[.int .i64 M,.slice A4 (k+1) c4] 24)∧w9.heap[w.heap.size+1]? = some (.cells #[.int .i64 0,.slice none 0 0] 24)∧OwnF w9 (w.heap.size+1+1) 27 (.slice A4 n c4) xs∧w.heap.size+1+1≤w9.heap.size∧Below w.heap.size w w9):=Lib.hid (ARM.out _ _ BL.out hb);replace SH:Hid (w9.cell? ⟨w.heap.size,0,none⟩=some (.int .i64 M)∧w9.cell? ⟨w.heap.size,1,none⟩=some (.slice A4 (k+1) c4)):=Lib.hid (cells2_row BL.out.1);clear hb))
   all_goals
    have h0:=Lib.hid BL.out.1
    have r1:=SH.out.2
    go_wp2_with (first
     | go_skip
     | (refine at_store 22 (.tmp 20) (.tmp 19) (by rfl) ?_;refine wpList_put (by rfl) 22 (.tmp 20) (.tmp 19) (by rfl) (w.heap.size) 1 (.slice A4 k c4) (by rfl) (by rfl) 24 #[.int .i64 M,.slice A4 (k+1) c4] #[.int .i64 M,.slice A4 k c4] h0.out (by simp[Value.cells]) (by kernel_rfl) infoc_L (by kernel_rfl) ?_;intro w5 hrow hoth hz5 hbl;have H5:=Lib.hid (And.intro hrow (And.intro hoth (And.intro hz5 hbl)));clear hrow hoth hz5 hbl))
    simp only[Act.put]
    go_roundw
    case rel=>
     obtain⟨hrow,hoth,hz5,hbl⟩:=H5.out
     exact⟨k,by have:=HJ.out;omega,by omega,hrow,(hoth _ (by omega)).trans BL.out.2.1,BL.out.2.2.1.above fun k hk=>hoth k (by omega),by have:=BL.out.2.2.2.1;omega,hbl _ _ (Nat.le_refl _) BL.out.2.2.2.2⟩
    case measure=>
     have h1:=lenAt_eq H5.out.1
     have h2:=lenAt_eq HR0.out
     omega
end Go.Proofs.YtahiajeggbpogaaGreatDoor
namespace Go.Proofs.YtahiajeggbpogaaGreatDoor
open Go.RowKit Tb
set_option linter.unusedVariables false
set_option linter.unusedSimpArgs false
theorem t_right(M:Int)(A:Option Addr)(n c:Nat)(xs:List Fd)(w:World)(hA:Fs w w.heap.size A n xs)(hF:full xs≤1000000) :
  Calls Tryz.prog 81 #[.agg #[.int .i64 M,.slice A n c]] w fun e w'=>e = .returned (.bool (rightB M xs))∧Below w.heap.size w w':=by
 have HC:Hid (EnvF (w.alloc (.cells #[.int .i64 M,.slice A n c] 24)) [fF A n xs] [(w.heap.size,#[.int .i64 M,.slice A n c],24)]):=Lib.hid (((EnvF.nil w).addF hA).boxg 24 #[.int .i64 M,.slice A n c] (w.heap.size) (by simp))
 have BL:Hid (Below w.heap.size w (w.alloc (.cells #[.int .i64 M,.slice A n c] 24))):=Lib.hid ((Below.refl _ w).alloc (Nat.le_refl _) (.cells #[.int .i64 M,.slice A n c] 24))
 clear hA
 unfold rightB
 have hbd:=fun w0=>t_bounded M w0
 by_cases hm:okB M=true
 ·rw[hm] at hbd ⊢
  go_enter Tryz.func81,Tryz.ntmps81
  go_wp2
  refine q_start (fun W=>EnvF W [fF A n xs] [(w.heap.size,#[.int .i64 M,.slice A n c],24)]∧Below w.heap.size w W) (by kernel_rfl) (by kernel_rfl) ⟨HC.out.drew,BL.out.drew⟩ ?_
  refine q_val (by rfl) (fun w=>by go_simp;rfl) ?_
  simp only[Act.put,List.setIfInBounds_toArray,List.set_cons_succ,List.set_cons_zero]
  refine q_get (by rfl) 3 (.tmp 3) (by rfl) (w.heap.size) 0 (by rfl) 24 #[.int .i64 M,.slice A n c] (.int .i64 M) _ (fun W hW=>hW.1.row 0 rfl) (by rfl) Tryz.underlying3 (by rfl) ?_
  simp only[Act.put,List.setIfInBounds_toArray,List.set_cons_succ,List.set_cons_zero]
  refine q_call (by rfl) 82 #[.int .i64 M] (.bool true) (fun w=>by go_simp) (fun W hW=>(hbd W).mono fun e w' h=>⟨h.1,hW.1.on h.2,below_step hW.2 h.2⟩) ?_
  simp only[Act.put,List.setIfInBounds_toArray,List.set_cons_succ,List.set_cons_zero]
  refine q_move (by rfl) (.tmp 5) (by rfl) ?_
  simp only[Act.put,List.setIfInBounds_toArray,List.set_cons_succ,List.set_cons_zero]
  refine q_row (by rfl) 24 (.tmp 1) (by rfl) (w.heap.size) (by rfl) 24 #[.int .i64 M,.slice A n c] _ (fun W hW=>hW.1.row 0 rfl) Tryz.underlying24 (by rfl) infoc_T ?_
  simp only[Act.put,List.setIfInBounds_toArray,List.set_cons_succ,List.set_cons_zero]
  refine q_call (by rfl) 52 #[.agg #[.int .i64 M,.slice A n c]] (.int .i64 (full xs:Int)) (fun w=>by go_simp) (fun W hW=>(t_full M A n c xs W (hW.1.fs (A:=A) (n:=n) (xs:=xs) (by simp)) hF).mono fun e w' h=>⟨h.1,hW.1.on h.2,below_step hW.2 h.2⟩) ?_
  simp only[Act.put,List.setIfInBounds_toArray,List.set_cons_succ,List.set_cons_zero]
  refine q_val (by rfl) (fun w=>by go_simp;rfl) ?_
  simp only[Act.put,List.setIfInBounds_toArray,List.set_cons_succ,List.set_cons_zero]
  refine q_get (by rfl) 3 (.tmp 9) (by rfl) (w.heap.size) 0 (by rfl) 24 #[.int .i64 M,.slice A n c] (.int .i64 M) _ (fun W hW=>hW.1.row 0 rfl) (by rfl) Tryz.underlying3 (by rfl) ?_
  simp only[Act.put,List.setIfInBounds_toArray,List.set_cons_succ,List.set_cons_zero]
  refine q_val (by rfl) (fun w=>by go_simp;rfl) ?_
  simp only[Act.put,List.setIfInBounds_toArray,List.set_cons_succ,List.set_cons_zero]
  refine q_val (by rfl) (fun w=>by go_simp;rfl) ?_
  simp only[Act.put,List.setIfInBounds_toArray,List.set_cons_succ,List.set_cons_zero]
  refine q_assign (by rfl) (.tmp 12) (by rfl) ?_
  simp only[Act.put,List.setIfInBounds_toArray,List.set_cons_succ,List.set_cons_zero]
  refine wpQuiet_nil ?_
  intro w1 hW
  go_wp2
  go_ret
  exact⟨rfl,hW.2⟩
 ·rw[Bool.not_eq_true] at hm
  rw[hm] at hbd ⊢
  go_enter Tryz.func81,Tryz.ntmps81
  go_wp2
  refine q_start (fun W=>EnvF W [fF A n xs] [(w.heap.size,#[.int .i64 M,.slice A n c],24)]∧Below w.heap.size w W) (by kernel_rfl) (by kernel_rfl) ⟨HC.out.drew,BL.out.drew⟩ ?_
  refine q_val (by rfl) (fun w=>by go_simp;rfl) ?_
  simp only[Act.put,List.setIfInBounds_toArray,List.set_cons_succ,List.set_cons_zero]
  refine q_get (by rfl) 3 (.tmp 3) (by rfl) (w.heap.size) 0 (by rfl) 24 #[.int .i64 M,.slice A n c] (.int .i64 M) _ (fun W hW=>hW.1.row 0 rfl) (by rfl) Tryz.underlying3 (by rfl) ?_
  simp only[Act.put,List.setIfInBounds_toArray,List.set_cons_succ,List.set_cons_zero]
  refine q_call (by rfl) 82 #[.int .i64 M] (.bool false) (fun w=>by go_simp) (fun W hW=>(hbd W).mono fun e w' h=>⟨h.1,hW.1.on h.2,below_step hW.2 h.2⟩) ?_
  simp only[Act.put,List.setIfInBounds_toArray,List.set_cons_succ,List.set_cons_zero]
  refine q_move (by rfl) (.tmp 5) (by rfl) ?_
  simp only[Act.put,List.setIfInBounds_toArray,List.set_cons_succ,List.set_cons_zero]
  refine q_skip (by rfl) ?_
  simp only[Act.put,List.setIfInBounds_toArray,List.set_cons_succ,List.set_cons_zero]
  refine q_skip (by rfl) ?_
  simp only[Act.put,List.setIfInBounds_toArray,List.set_cons_succ,List.set_cons_zero]
  refine q_skip (by rfl) ?_
  simp only[Act.put,List.setIfInBounds_toArray,List.set_cons_succ,List.set_cons_zero]
  refine q_skip (by rfl) ?_
  simp only[Act.put,List.setIfInBounds_toArray,List.set_cons_succ,List.set_cons_zero]
  refine q_skip (by rfl) ?_
  simp only[Act.put,List.setIfInBounds_toArray,List.set_cons_succ,List.set_cons_zero]
  refine q_val (v:=.bool false) (by rfl) (fun w=>by go_simp) ?_
  simp only[Act.put,List.setIfInBounds_toArray,List.set_cons_succ,List.set_cons_zero]
  refine q_assign (by rfl) (.tmp 12) (by rfl) ?_
  simp only[Act.put,List.setIfInBounds_toArray,List.set_cons_succ,List.set_cons_zero]
  refine wpQuiet_nil ?_
  intro w1 hW
  go_wp2
  go_ret
  exact⟨rfl,hW.2⟩
theorem r_right(M:Int)(A:Option Addr)(n c:Nat)(xs:List Fd)(w:World)(hA:Fs w w.heap.size A n xs)(hF:full xs≤1000000) :
  Calls Tryz.prog 36 #[.agg #[.int .i64 M,.slice A n c]] w fun e w'=>e = .returned (.bool (rightB M xs))∧Below w.heap.size w w':=by
 have HC:Hid (EnvF (w.alloc (.cells #[.int .i64 M,.slice A n c] 24)) [fF A n xs] [(w.heap.size,#[.int .i64 M,.slice A n c],24)]):=Lib.hid (((EnvF.nil w).addF hA).boxg 24 #[.int .i64 M,.slice A n c] (w.heap.size) (by simp))
 have BL:Hid (Below w.heap.size w (w.alloc (.cells #[.int .i64 M,.slice A n c] 24))):=Lib.hid ((Below.refl _ w).alloc (Nat.le_refl _) (.cells #[.int .i64 M,.slice A n c] 24))
 clear hA
 unfold rightB okB
 by_cases h0:0≤M
 ·have d0:decide (0≤M)=true:=decide_eq_true h0
  by_cases h1:M≤4096
  ·have d1:decide (M≤4096)=true:=decide_eq_true h1
   rw[d0,d1]
   go_enter Tryz.func36,Tryz.ntmps36
   go_wp2
   refine q_start (fun W=>EnvF W [fF A n xs] [(w.heap.size,#[.int .i64 M,.slice A n c],24)]∧Below w.heap.size w W) (by kernel_rfl) (by kernel_rfl) ⟨HC.out.drew,BL.out.drew⟩ ?_
   refine q_val (by rfl) (fun w=>by go_simp;rfl) ?_
   simp only[Act.put,List.setIfInBounds_toArray,List.set_cons_succ,List.set_cons_zero]
   refine q_get (by rfl) 3 (.tmp 3) (by rfl) (w.heap.size) 0 (by rfl) 24 #[.int .i64 M,.slice A n c] (.int .i64 M) _ (fun W hW=>hW.1.row 0 rfl) (by rfl) Tryz.underlying3 (by rfl) ?_
   simp only[Act.put,List.setIfInBounds_toArray,List.set_cons_succ,List.set_cons_zero]
   refine q_val (v:=.bool true) (by rfl) (fun w=>by go_simp) ?_
   simp only[Act.put,List.setIfInBounds_toArray,List.set_cons_succ,List.set_cons_zero]
   refine q_move (by rfl) (.tmp 5) (by rfl) ?_
   simp only[Act.put,List.setIfInBounds_toArray,List.set_cons_succ,List.set_cons_zero]
   refine q_val (by rfl) (fun w=>by go_simp;rfl) ?_
   simp only[Act.put,List.setIfInBounds_toArray,List.set_cons_succ,List.set_cons_zero]
   refine q_get (by rfl) 3 (.tmp 7) (by rfl) (w.heap.size) 0 (by rfl) 24 #[.int .i64 M,.slice A n c] (.int .i64 M) _ (fun W hW=>hW.1.row 0 rfl) (by rfl) Tryz.underlying3 (by rfl) ?_
   simp only[Act.put,List.setIfInBounds_toArray,List.set_cons_succ,List.set_cons_zero]
   refine q_val (v:=.bool true) (by rfl) (fun w=>by go_simp) ?_
   simp only[Act.put,List.setIfInBounds_toArray,List.set_cons_succ,List.set_cons_zero]
   refine q_val (v:=.bool true) (by rfl) (fun w=>by go_simp) ?_
   simp only[Act.put,List.setIfInBounds_toArray,List.set_cons_succ,List.set_cons_zero]
   refine q_move (by rfl) (.tmp 10) (by rfl) ?_
   simp only[Act.put,List.setIfInBounds_toArray,List.set_cons_succ,List.set_cons_zero]
   refine q_row (by rfl) 24 (.tmp 1) (by rfl) (w.heap.size) (by rfl) 24 #[.int .i64 M,.slice A n c] _ (fun W hW=>hW.1.row 0 rfl) Tryz.underlying24 (by rfl) infoc_T ?_
   simp only[Act.put,List.setIfInBounds_toArray,List.set_cons_succ,List.set_cons_zero]
   refine q_call (by rfl) 58 #[.agg #[.int .i64 M,.slice A n c]] (.int .i64 (full xs:Int)) (fun w=>by go_simp) (fun W hW=>(r_full M A n c xs W (hW.1.fs (A:=A) (n:=n) (xs:=xs) (by simp)) hF).mono fun e w' h=>⟨h.1,hW.1.on h.2,below_step hW.2 h.2⟩) ?_
   simp only[Act.put,List.setIfInBounds_toArray,List.set_cons_succ,List.set_cons_zero]
   refine q_val (by rfl) (fun w=>by go_simp;rfl) ?_
   simp only[Act.put,List.setIfInBounds_toArray,List.set_cons_succ,List.set_cons_zero]
   refine q_get (by rfl) 3 (.tmp 14) (by rfl) (w.heap.size) 0 (by rfl) 24 #[.int .i64 M,.slice A n c] (.int .i64 M) _ (fun W hW=>hW.1.row 0 rfl) (by rfl) Tryz.underlying3 (by rfl) ?_
   simp only[Act.put,List.setIfInBounds_toArray,List.set_cons_succ,List.set_cons_zero]
   refine q_val (by rfl) (fun w=>by go_simp;rfl) ?_
   simp only[Act.put,List.setIfInBounds_toArray,List.set_cons_succ,List.set_cons_zero]
   refine q_val (by rfl) (fun w=>by go_simp;rfl) ?_
   simp only[Act.put,List.setIfInBounds_toArray,List.set_cons_succ,List.set_cons_zero]
   refine q_assign (by rfl) (.tmp 17) (by rfl) ?_
   simp only[Act.put,List.setIfInBounds_toArray,List.set_cons_succ,List.set_cons_zero]
   refine wpQuiet_nil ?_
   intro w1 hW
   go_wp2
   go_ret
   exact⟨rfl,hW.2⟩
  ·have d1:decide (M≤4096)=false:=decide_eq_false h1
   rw[d0,d1]
   go_enter Tryz.func36,Tryz.ntmps36
   go_wp2
   refine q_start (fun W=>EnvF W [fF A n xs] [(w.heap.size,#[.int .i64 M,.slice A n c],24)]∧Below w.heap.size w W) (by kernel_rfl) (by kernel_rfl) ⟨HC.out.drew,BL.out.drew⟩ ?_
   refine q_val (by rfl) (fun w=>by go_simp;rfl) ?_
   simp only[Act.put,List.setIfInBounds_toArray,List.set_cons_succ,List.set_cons_zero]
   refine q_get (by rfl) 3 (.tmp 3) (by rfl) (w.heap.size) 0 (by rfl) 24 #[.int .i64 M,.slice A n c] (.int .i64 M) _ (fun W hW=>hW.1.row 0 rfl) (by rfl) Tryz.underlying3 (by rfl) ?_
   simp only[Act.put,List.setIfInBounds_toArray,List.set_cons_succ,List.set_cons_zero]
   refine q_val (v:=.bool true) (by rfl) (fun w=>by go_simp) ?_
   simp only[Act.put,List.setIfInBounds_toArray,List.set_cons_succ,List.set_cons_zero]
   refine q_move (by rfl) (.tmp 5) (by rfl) ?_
   simp only[Act.put,List.setIfInBounds_toArray,List.set_cons_succ,List.set_cons_zero]
   refine q_val (by rfl) (fun w=>by go_simp;rfl) ?_
   simp only[Act.put,List.setIfInBounds_toArray,List.set_cons_succ,List.set_cons_zero]
   refine q_get (by rfl) 3 (.tmp 7) (by rfl) (w.heap.size) 0 (by rfl) 24 #[.int .i64 M,.slice A n c] (.int .i64 M) _ (fun W hW=>hW.1.row 0 rfl) (by rfl) Tryz.underlying3 (by rfl) ?_
   simp only[Act.put,List.setIfInBounds_toArray,List.set_cons_succ,List.set_cons_zero]
   refine q_val (v:=.bool false) (by rfl) (fun w=>by go_simp) ?_
   simp only[Act.put,List.setIfInBounds_toArray,List.set_cons_succ,List.set_cons_zero]
   refine q_val (v:=.bool false) (by rfl) (fun w=>by go_simp) ?_
   simp only[Act.put,List.setIfInBounds_toArray,List.set_cons_succ,List.set_cons_zero]
   refine q_move (by rfl) (.tmp 10) (by rfl) ?_
   simp only[Act.put,List.setIfInBounds_toArray,List.set_cons_succ,List.set_cons_zero]
   refine q_skip (by rfl) ?_
   simp only[Act.put,List.setIfInBounds_toArray,List.set_cons_succ,List.set_cons_zero]
   refine q_skip (by rfl) ?_
   simp only[Act.put,List.setIfInBounds_toArray,List.set_cons_succ,List.set_cons_zero]
   refine q_skip (by rfl) ?_
   simp only[Act.put,List.setIfInBounds_toArray,List.set_cons_succ,List.set_cons_zero]
   refine q_skip (by rfl) ?_
   simp only[Act.put,List.setIfInBounds_toArray,List.set_cons_succ,List.set_cons_zero]
   refine q_skip (by rfl) ?_
   simp only[Act.put,List.setIfInBounds_toArray,List.set_cons_succ,List.set_cons_zero]
   refine q_val (v:=.bool false) (by rfl) (fun w=>by go_simp) ?_
   simp only[Act.put,List.setIfInBounds_toArray,List.set_cons_succ,List.set_cons_zero]
   refine q_assign (by rfl) (.tmp 17) (by rfl) ?_
   simp only[Act.put,List.setIfInBounds_toArray,List.set_cons_succ,List.set_cons_zero]
   refine wpQuiet_nil ?_
   intro w1 hW
   go_wp2
   go_ret
   exact⟨rfl,hW.2⟩
 ·have d0:decide (0≤M)=false:=decide_eq_false h0
  rw[d0]
  go_enter Tryz.func36,Tryz.ntmps36
  go_wp2
  refine q_start (fun W=>EnvF W [fF A n xs] [(w.heap.size,#[.int .i64 M,.slice A n c],24)]∧Below w.heap.size w W) (by kernel_rfl) (by kernel_rfl) ⟨HC.out.drew,BL.out.drew⟩ ?_
  refine q_val (by rfl) (fun w=>by go_simp;rfl) ?_
  simp only[Act.put,List.setIfInBounds_toArray,List.set_cons_succ,List.set_cons_zero]
  refine q_get (by rfl) 3 (.tmp 3) (by rfl) (w.heap.size) 0 (by rfl) 24 #[.int .i64 M,.slice A n c] (.int .i64 M) _ (fun W hW=>hW.1.row 0 rfl) (by rfl) Tryz.underlying3 (by rfl) ?_
  simp only[Act.put,List.setIfInBounds_toArray,List.set_cons_succ,List.set_cons_zero]
  refine q_val (v:=.bool false) (by rfl) (fun w=>by go_simp) ?_
  simp only[Act.put,List.setIfInBounds_toArray,List.set_cons_succ,List.set_cons_zero]
  refine q_move (by rfl) (.tmp 5) (by rfl) ?_
  simp only[Act.put,List.setIfInBounds_toArray,List.set_cons_succ,List.set_cons_zero]
  refine q_skip (by rfl) ?_
  simp only[Act.put,List.setIfInBounds_toArray,List.set_cons_succ,List.set_cons_zero]
  refine q_skip (by rfl) ?_
  simp only[Act.put,List.setIfInBounds_toArray,List.set_cons_succ,List.set_cons_zero]
  refine q_skip (by rfl) ?_
  simp only[Act.put,List.setIfInBounds_toArray,List.set_cons_succ,List.set_cons_zero]
  refine q_val (v:=.bool false) (by rfl) (fun w=>by go_simp) ?_
  simp only[Act.put,List.setIfInBounds_toArray,List.set_cons_succ,List.set_cons_zero]
  refine q_move (by rfl) (.tmp 10) (by rfl) ?_
  simp only[Act.put,List.setIfInBounds_toArray,List.set_cons_succ,List.set_cons_zero]
  refine q_skip (by rfl) ?_
  simp only[Act.put,List.setIfInBounds_toArray,List.set_cons_succ,List.set_cons_zero]
  refine q_skip (by rfl) ?_
  simp only[Act.put,List.setIfInBounds_toArray,List.set_cons_succ,List.set_cons_zero]
  refine q_skip (by rfl) ?_
  simp only[Act.put,List.setIfInBounds_toArray,List.set_cons_succ,List.set_cons_zero]
  refine q_skip (by rfl) ?_
  simp only[Act.put,List.setIfInBounds_toArray,List.set_cons_succ,List.set_cons_zero]
  refine q_skip (by rfl) ?_
  simp only[Act.put,List.setIfInBounds_toArray,List.set_cons_succ,List.set_cons_zero]
  refine q_val (v:=.bool false) (by rfl) (fun w=>by go_simp) ?_
  simp only[Act.put,List.setIfInBounds_toArray,List.set_cons_succ,List.set_cons_zero]
  refine q_assign (by rfl) (.tmp 17) (by rfl) ?_
  simp only[Act.put,List.setIfInBounds_toArray,List.set_cons_succ,List.set_cons_zero]
  refine wpQuiet_nil ?_
  intro w1 hW
  go_wp2
  go_ret
  exact⟨rfl,hW.2⟩
end Go.Proofs.YtahiajeggbpogaaGreatDoor
