import Derived.Test.YtahiajeggbpogaaGreatDoorUpX
import Derived.Test.YtahiajeggbpogaaGreatDoorGRd
set_option maxRecDepth 100000
set_option maxHeartbeats 4000000
namespace Go.Proofs.YtahiajeggbpogaaGreatDoor
open Go.RowKit Px Tx Tb Up
set_option linter.unusedVariables false
set_option linter.unusedSimpArgs false
def Up.rdc(K:Nat)(most M:Int)(A:Option Addr)(n c:Nat)(LA:Option Addr)(ln lc:Nat):Array Value:=#[.map (some K),.int .i64 most,.int .i64 M,.slice A n c,.slice LA ln lc]
theorem u_ptake{LA:Option Addr}{N lc:Nat}{ls:List UInt8}(k:Nat)(w:World)(hB:Bs w w.heap.size LA N (ls.take 7))(hlc:N≤lc)(hN:N=min 7 ls.length)(h1:1≤k)(h8:k≤8) :
  Calls Tryz.prog 124 #[.slice LA N lc,.int .i64 (k:Int)] w fun e w'=>∃A' c',e = .returned (.tuple #[.int .i64 (nV ls k:Int),.slice A' (N-nU ls k) c',.int .i64 (nC ls k:Int)])∧Below w.heap.size w w':=by
 refine(X_Take LA N lc (ls.take 7) k w hB hlc (by omega)).mono ?_
 rintro e w' ⟨A',c',rfl,_,hb⟩
 refine⟨A',c',?_,hb⟩
 have e1:takC (ls.take 7) (k:Int)=takeN ls k:=by rw[takC_yes h1 h8,takeN_cut]
 have e2:(takL (ls.take 7) (k:Int)).length=N-nU ls k:=by
  unfold takL nU nC
  rw[e1]
  split
  ·rw[List.length_drop,List.length_take,hN]
  ·simp[hN]
 rw[e1,e2]
 rfl
theorem Up.cut_on{LA A2:Option Addr}{ln lc k:Nat}{xs ys:List UInt8}{m B:Nat}{w:World}(h:(if lc=k then LA else LA.map fun x=>x.add k)=A2)(hB:Bs w B LA ln xs)(hm:m≤ln) : ∀b,(bF A2 m ys).on b→(bF LA ln xs).on b:=fun b hb=>by
 obtain⟨h0,o,e⟩:=hb
 obtain⟨q,r,e2,_,_⟩:=hB.2 (by omega)
 refine⟨by omega,?_⟩
 subst h
 subst e2
 split at e
 ·exact⟨o,e⟩
 ·simp only[Option.map_some,Option.some.injEq] at e
  rw[Addr.add_lit] at e
  cases e
  exact⟨_,rfl⟩
theorem infoc_SB:(Tryz.prog.info? 25).map (·.size)=some 1:=by kernel_rfl
namespace Up
def rwF:Fact where
 on k:=k=6
 is w:=Hf.Rws w
 dep w w' h hz hk:=fun j v hj=>(World.cell?_of_block (hk 6 rfl)).trans (h j v hj)
theorem EnvF.rws{w:World}{fs:List Fact}{gs:List Bx}(h:EnvF w fs gs)(hm:rwF∈fs):Hf.Rws w:=(h.f _ hm).1
structure Opn (w:World) (fs:List Fact) (gs:List Bx) (i g K:Nat) (most:Int) (A:Option Addr) (n c:Nat) (LA:Option Addr) (ln lc:Nat) (s:Sta):Prop where
 e:EnvF w fs gs
 i:gs[i]? = some (g,rdc K most s.M A n c LA ln lc,64)
 f:fF A n s.xs∈fs
 l:bF LA ln s.ls∈fs
 hl:ln≤lc
 hN:LA=none→lc=0
 hA:A=none→c=0
def Cls(w:World)(fs:List Fact)(gs:List Bx)(i g K:Nat)(most:Int)(s:Sta):Prop:=
 ∃A n c LA ln lc,Opn w (fF A n s.xs::bF LA ln s.ls::fs) (gs.set i (g,rdc K most s.M A n c LA ln lc,64)) i g K most A n c LA ln lc s
section
variable {w w':World}{fs:List Fact}{gs:List Bx}{i g K:Nat}{most:Int}{A:Option Addr}{n c:Nat}{LA:Option Addr}{ln lc:Nat}{s:Sta}
theorem Opn.row(h:Opn w fs gs i g K most A n c LA ln lc s):w.heap[g]? = some (.cells (rdc K most s.M A n c LA ln lc) 64):=h.e.row i h.i
theorem Opn.bs(h:Opn w fs gs i g K most A n c LA ln lc s):Bs w w.heap.size LA ln s.ls:=h.e.bs h.l
theorem Opn.fld(h:Opn w fs gs i g K most A n c LA ln lc s):Fs w w.heap.size A n s.xs:=h.e.fs h.f
theorem Opn.lt(h:Opn w fs gs i g K most A n c LA ln lc s):g<w.heap.size:=(Array.getElem?_eq_some_iff.1 h.row).1
theorem Opn.on(h:Opn w fs gs i g K most A n c LA ln lc s)(hb:Below w.heap.size w w'):Opn w' fs gs i g K most A n c LA ln lc s:=⟨h.e.on hb,h.i,h.f,h.l,h.hl,h.hN,h.hA⟩
theorem Opn.len(h:Opn w fs gs i g K most A n c LA ln lc s):s.ls.length=ln:=h.bs.1
theorem set_ix{i:Nat}{x y:Bx}(h:gs[i]? = some x):(gs.set i y)[i]? = some y:=by
 rw[List.getElem?_set_self (List.getElem?_eq_some_iff.1 h).1]
theorem Opn.left(h:Opn w fs gs i g K most A n c LA ln lc s){A2:Option Addr}{k:Nat}(hk:k≤ln)(hA2:(if lc=k then LA else LA.map fun x=>x.add k)=A2)(he:EnvF w' fs (gs.set i (g,rdc K most s.M A n c A2 (ln-k) (lc-k),64))) :
  Cls w' fs gs i g K most ⟨s.M,s.xs,s.ls.drop k⟩:=by
 have hb:=Tx.cutO (he.bs h.l) hk h.hl
 rw[hA2] at hb
 have e1:=he.less (x:=bF A2 (ln-k) (s.ls.drop k)) h.l hb (cut_on hA2 (he.bs h.l) (by omega))
 exact⟨A,n,c,A2,ln-k,lc-k,e1.less (List.mem_cons_of_mem _ h.f) (he.fs h.f) (fun _ h=>h),set_ix h.i,List.mem_cons_self ..,List.mem_cons_of_mem _ (List.mem_cons_self ..),by have:=h.hl;omega,Tx.cut_none hA2 h.hN,h.hA⟩
theorem Opn.stay(h:Opn w fs gs i g K most A n c LA ln lc s):Cls w fs gs i g K most s:=by
 have e0:=h.e.rd i h.i (gb_refl w g) h.row
 exact⟨A,n,c,LA,ln,lc,(e0.less (x:=bF LA ln s.ls) h.l (e0.bs h.l) (fun _ h=>h)).less (List.mem_cons_of_mem _ h.f) (e0.fs h.f) (fun _ h=>h),set_ix h.i,List.mem_cons_self ..,List.mem_cons_of_mem _ (List.mem_cons_self ..),h.hl,h.hN,h.hA⟩
end
end Up
theorem u_ahead{fs:List Fact}{gs:List Bx}{i g K:Nat}{most:Int}{A:Option Addr}{n c:Nat}{LA:Option Addr}{ln lc:Nat}{s:Sta}(k:Nat)(w:World)(hO:Opn w fs gs i g K most A n c LA ln lc s)(h1:1≤k)(h8:k≤8) :
  Calls Tryz.prog 104 #[.pointer (some ⟨g,0,none⟩),.int .i64 (k:Int)] w fun e w'=>e = .returned (.tuple #[.int .i64 (nV s.ls k:Int),.int .i64 (nU s.ls k:Int),.int .i64 (nC s.ls k:Int)])∧Below w.heap.size w w':=by
 obtain⟨M,xs,ls⟩:=s
 have hr:=hO.row
 have c4:w.cell? ⟨g,4,none⟩=some (.slice LA ln lc):=by rw[cell_of_row w g 4 _ _ (0,0) hr];rfl
 have hB:=hO.bs
 have hlc:=hO.hl
 simp only at *
 have hl:=hB.1
 obtain⟨N,hN⟩ : ∃N:Nat,min 7 ln=N:=⟨_,rfl⟩
 have hm:(if (ln:Int)<7 then (ln:Int) else 7)=(N:Int):=by split<;>omega
 have hU:nU ls k≤N:=by
  by_cases h:nC ls k=0
  ·have:=n_bd h8 h;omega
  ·unfold nU;rw[if_neg h];omega
 have H:=Lib.hid (u_ptake (LA:=LA) (N:=N) (lc:=lc) (ls:=ls) k w.drew (show Bs w.drew w.drew.heap.size LA N (ls.take 7) by
  have:=hB.take (k:=N) (by omega)
  rwa [show ls.take N=ls.take 7 from by rw[←hN,←hl];exact(List.take_eq_take_min (i:=7)).symm ▸ (by simp[Nat.min_comm])] at this) (by omega) (by omega) h1 h8)
 have hlc2:decide ((N:Int)≤(lc:Int))=true:=decide_eq_true (by omega)
 have hNc:(N:Int)≤(lc:Int):=by omega
 obtain⟨U,hUe⟩ : ∃U,nU ls k=U:=⟨_,rfl⟩
 obtain⟨V,hV⟩ : ∃V,nV ls k=V:=⟨_,rfl⟩
 obtain⟨C,hC⟩ : ∃C,nC ls k=C:=⟨_,rfl⟩
 rw[hUe,hV,hC] at H
 rw[hUe] at hU
 rw[hUe,hV,hC]
 obtain⟨R,hR⟩ : ∃R,N-U=R:=⟨_,rfl⟩
 rw[hR] at H
 have hs:IntKind.i64.wrap ((N:Int)-(R:Int))=(U:Int):=by rw[IntWalk.i64_in _ (by omega)];omega
 have hs2:(N:Int)-(R:Int)=(U:Int):=by omega
 clear hO hr hN hl hR
 go_enter Tryz.func104,Tryz.ntmps104
 go_wp2
 go_region
 go_wp2_with (go_at_call 124;(with_reducible refine H.out.mono ?_);rintro e w1 ⟨A1,c1,rfl,hb1⟩)
 go_wp2
 go_ret3
 exact⟨rfl,below_step (Below.refl _ w).drew hb1⟩
theorem u_number{fs:List Fact}{gs:List Bx}{i g K:Nat}{most:Int}{A:Option Addr}{n c:Nat}{LA:Option Addr}{ln lc:Nat}{s:Sta}(k:Nat)(w:World)(hO:Opn w fs gs i g K most A n c LA ln lc s)(h1:1≤k)(h8:k≤8) :
  Calls Tryz.prog 85 #[.pointer (some ⟨g,0,none⟩),.int .i64 (k:Int)] w fun e w'=>e = .returned (.tuple #[.int .i64 (nV s.ls k:Int),.int .i64 (nC s.ls k:Int)])∧w.grownBy w' (some g)∧Cls w' fs gs i g K most ⟨s.M,s.xs,nR s.ls k⟩:=by
 obtain⟨M,xs,ls⟩:=s
 have hl:=hO.len
 have hlc:=hO.hl
 have hU:nU ls k≤ln:=by have:=nU_le (ls:=ls) h8;simp only at hl;omega
 have H:=Lib.hid (u_ahead k w hO h1 h8)
 have K0:=Lib.hid hO
 simp only at H
 obtain⟨U,hUe⟩ : ∃U,nU ls k=U:=⟨_,rfl⟩
 obtain⟨V,hV⟩ : ∃V,nV ls k=V:=⟨_,rfl⟩
 obtain⟨C,hC⟩ : ∃C,nC ls k=C:=⟨_,rfl⟩
 have hRR:Hid (nR ls k=ls.drop U):=Lib.hid (by unfold nR;rw[hUe])
 simp only
 rw[hUe,hV,hC] at H
 rw[hUe] at hU
 rw[hV,hC]
 have hU1:(U:Int)≤(lc:Int):=by omega
 have hU2:(U:Int)≤(ln:Int):=by omega
 obtain⟨A2,hA2⟩ : ∃A2,(if lc=U then LA else LA.map fun x=>x.add U)=A2:=⟨_,rfl⟩
 have HA2:=Lib.hid hA2
 clear hO hl hUe
 go_enter Tryz.func85,Tryz.ntmps85
 go_wp2_with (first
  | go_skip
  | (go_at_call 104;(with_reducible refine H.out.mono ?_);rintro e w1 ⟨rfl,hb1⟩;have K1:=Lib.hid (K0.out.on hb1);have G1:Hid (w.grownBy w1 (some g)):=Lib.hid (gb_new hb1);clear hb1 K0)
  | (refine at_load 25 (.tmp 19) (by rfl) ?_;refine wpList_get (by rfl) 25 (.tmp 19) (by rfl) g 4 (by rfl) 64 (rdc K most M A n c LA ln lc) (.slice LA ln lc) _ (K1.out.row) (by rfl) Tryz.underlying25 (by rfl) ?_)
  | (refine at_store 25 (.tmp 24) (.tmp 22) (by rfl) ?_;refine wpList_put (by rfl) 25 (.tmp 24) (.tmp 22) (by rfl) g 4 (.slice A2 (ln-U) (lc-U)) (by rfl) (by rfl) 64 (rdc K most M A n c LA ln lc) (rdc K most M A n c A2 (ln-U) (lc-U)) (K1.out.row) (by simp[Value.cells,rdc]) (by kernel_rfl) infoc_SB (by kernel_rfl) ?_;intro w2 hrow hoth hz hbl;have K2:=Lib.hid (K1.out.left hU HA2.out (K1.out.e.turn i K1.out.i hrow hoth hz));have G2:Hid (w.grownBy w2 (some g)):=Lib.hid (gb_put G1.out hoth hz hbl (.inl rfl));clear hrow hoth hz hbl K1 G1))
 go_ret2
 rw[hRR.out]
 exact⟨rfl,G2.out,K2.out⟩
theorem u_rest(a b:Nat)(w:World)(ha:a≤8) :
  Calls Tryz.prog 71 #[.agg #[.int .u8 (a:Int),.int .u8 (b:Int)]] w fun e w'=>e = .returned (.int .i64 ((8-a:Nat):Int))∧Below w.heap.size w w':=by
 have h1:IntKind.i64.wrap (a:Int)=(a:Int):=IntWalk.i64_in _ (by omega)
 have h2:(8:Int)-(a:Int)=((8-a:Nat):Int):=by omega
 have h3:IntKind.i64.wrap ((8:Int)-(a:Int))=((8-a:Nat):Int):=by rw[IntWalk.i64_in _ (by omega)];omega
 go_enter Tryz.func71,Tryz.ntmps71
 go_wp2
 go_ret
 exact⟨rfl,(Below.refl _ w).alloc (Nat.le_refl _) _⟩
end Go.Proofs.YtahiajeggbpogaaGreatDoor
