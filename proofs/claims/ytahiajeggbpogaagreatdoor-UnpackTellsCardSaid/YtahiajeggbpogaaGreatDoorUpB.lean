import Derived.Test.YtahiajeggbpogaaGreatDoorUpA
set_option maxRecDepth 100000
set_option maxHeartbeats 4000000
namespace Go.Proofs.YtahiajeggbpogaaGreatDoor
open Go.RowKit Px Tx Tb Up
set_option linter.unusedVariables false
set_option linter.unusedSimpArgs false
theorem u_text_no{fs:List Fact}{gs:List Bx}{i g K:Nat}{most:Int}{A:Option Addr}{n c:Nat}{LA:Option Addr}{ln lc:Nat}{s:Sta}(w:World)(hO:Opn w fs gs i g K most A n c LA ln lc s)(h:nC s.ls 7≠0) :
  Calls Tryz.prog 106 #[.pointer (some ⟨g,0,none⟩)] w fun e w'=>e = .returned (.tuple #[.string ⟨#[]⟩,.int .i64 (nC s.ls 7:Int)])∧Below w.heap.size w w':=by
 have H:=Lib.hid (u_ahead 7 w hO (by omega) (by omega))
 obtain⟨U,hUe⟩ : ∃U,nU s.ls 7=U:=⟨_,rfl⟩
 obtain⟨V,hV⟩ : ∃V,nV s.ls 7=V:=⟨_,rfl⟩
 obtain⟨C,hC⟩ : ∃C,nC s.ls 7=C:=⟨_,rfl⟩
 rw[hUe,hV,hC,show((7:Nat):Int)=7 from rfl] at H
 rw[hC] at h
 rw[hC]
 have hb:((C:Int) != 0)=true:=by rw[bne_iff_ne];omega
 have hb2:decide ((C:Int)=0)=false:=decide_eq_false (by omega)
 clear hO hUe hV hC
 go_enter Tryz.func106,Tryz.ntmps106
 go_wp2_with (first
  | go_skip
  | (go_at_call 104;(with_reducible refine H.out.mono ?_);rintro e w1 ⟨rfl,hb1⟩))
 go_ret2
 exact⟨rfl,hb1⟩
theorem u_text_yes{fs:List Fact}{gs:List Bx}{i g K:Nat}{most:Int}{A:Option Addr}{n c:Nat}{LA:Option Addr}{ln lc:Nat}{s:Sta}(w:World)(hO:Opn w fs gs i g K most A n c LA ln lc s)(hR:rwF∈fs)(hn:ln≤10000)(h:nC s.ls 7=0) :
  Calls Tryz.prog 106 #[.pointer (some ⟨g,0,none⟩)] w fun e w'=>e = .returned (.tuple #[.string (st (tS s.ls)),.int .i64 (tE s.ls)])∧w.grownBy w' (some g)∧Cls w' fs gs i g K most ⟨s.M,s.xs,s.ls.drop (tU s.ls)⟩:=by
 obtain⟨M,xs,ls⟩:=s
 have H:=Lib.hid (u_ahead 7 w hO (by omega) (by omega))
 have K0:=Lib.hid hO
 have hlen:=hO.len
 have hlc:=hO.hl
 simp only at H h hlen ⊢
 have hbd:=n_bd (k:=7) (by omega) h
 obtain⟨c1,c2⟩:=t_cut (ls:=ls) h
 have htU:tU ls=min (nU ls 7+nV ls 7) ln:=by rw[←hlen];unfold tU;rw[n_yes h];rfl
 have HT:=Lib.hid (fun(w0:World) (hR0:Hf.Rws w0) (hB0:Bs w0 w0.heap.size LA (tU ls) (ls.take (tU ls)))=>x_Take LA (tU ls) lc (ls.take (tU ls)) w0 hR0 hB0 (by omega) (by omega) (.inl (by omega)))
 rw[c1,c2] at HT
 obtain⟨U,hUe⟩ : ∃U,nU ls 7=U:=⟨_,rfl⟩
 obtain⟨V,hV⟩ : ∃V,nV ls 7=V:=⟨_,rfl⟩
 rw[hUe,hV,h,show((7:Nat):Int)=7 from rfl,show((0:Nat):Int)=0 from rfl] at H
 rw[hUe,hV] at htU
 rw[hUe,hV] at hbd
 obtain⟨T,hT⟩ : ∃T,tU ls=T:=⟨_,rfl⟩
 obtain⟨E0,hE0⟩ : ∃E0,tE ls=E0:=⟨_,rfl⟩
 obtain⟨S0,hS0⟩ : ∃S0,tS ls=S0:=⟨_,rfl⟩
 rw[hT,hE0,hS0] at HT
 rw[hT,hE0,hS0]
 rw[hT] at htU
 have hs:IntKind.i64.wrap ((U:Int)+(V:Int))=(U:Int)+(V:Int):=IntWalk.i64_in _ (by omega)
 have hm:(if (U:Int)+(V:Int)<(ln:Int) then (U:Int)+(V:Int) else (ln:Int))=(T:Int):=by split<;>omega
 have hm2:(if (ln:Int)<(U:Int)+(V:Int) then (ln:Int) else (U:Int)+(V:Int))=(T:Int):=by split<;>omega
 have hT1:(T:Int)≤(lc:Int):=by omega
 have hT2:(T:Int)≤(ln:Int):=by omega
 have hTn:T≤ln:=by omega
 obtain⟨A2,hA2⟩ : ∃A2,(if lc=T then LA else LA.map fun x=>x.add T)=A2:=⟨_,rfl⟩
 have HA2:=Lib.hid hA2
 have HR:=Lib.hid hR
 clear hO hUe hV hE0 hS0 hT htU hbd h c1 c2 hR hlen
 go_enter Tryz.func106,Tryz.ntmps106
 go_wp2_with (first
  | go_skip
  | (go_at_call 104;(with_reducible refine H.out.mono ?_);rintro e w1 ⟨rfl,hb1⟩;have K1:=Lib.hid (K0.out.on hb1);have G1:Hid (w.grownBy w1 (some g)):=Lib.hid (gb_new hb1);clear hb1 K0)
  | (refine at_load 25 (.tmp 23) (by rfl) ?_;refine wpList_get (by rfl) 25 (.tmp 23) (by rfl) g 4 (by rfl) 64 (rdc K most M A n c LA ln lc) (.slice LA ln lc) _ (K1.out.row) (by rfl) Tryz.underlying25 (by rfl) ?_)
  | (refine at_load 25 (.tmp 30) (by rfl) ?_;refine wpList_get (by rfl) 25 (.tmp 30) (by rfl) g 4 (by rfl) 64 (rdc K most M A n c LA ln lc) (.slice LA ln lc) _ (K1.out.row) (by rfl) Tryz.underlying25 (by rfl) ?_)
  | (go_at_call 125;(with_reducible refine(HT.out w1 (EnvF.rws K1.out.e HR.out) (K1.out.bs.take hTn)).mono ?_);rintro e w2 ⟨A3,c3,rfl,hh3,hb2⟩;have K2:=Lib.hid (K1.out.on hb2);have G2:Hid (w.grownBy w2 (some g)):=Lib.hid (gb_below G1.out hb2);clear hb2 hh3 K1 G1)
  | (refine at_load 25 (.tmp 41) (by rfl) ?_;refine wpList_get (by rfl) 25 (.tmp 41) (by rfl) g 4 (by rfl) 64 (rdc K most M A n c LA ln lc) (.slice LA ln lc) _ (K2.out.row) (by rfl) Tryz.underlying25 (by rfl) ?_)
  | (refine at_store 25 (.tmp 46) (.tmp 44) (by rfl) ?_;refine wpList_put (by rfl) 25 (.tmp 46) (.tmp 44) (by rfl) g 4 (.slice A2 (ln-T) (lc-T)) (by rfl) (by rfl) 64 (rdc K most M A n c LA ln lc) (rdc K most M A n c A2 (ln-T) (lc-T)) (K2.out.row) (by simp[Value.cells,rdc]) (by kernel_rfl) infoc_SB (by kernel_rfl) ?_;intro w3 hrow hoth hz hbl;have K3:=Lib.hid (K2.out.left hTn HA2.out (K2.out.e.turn i K2.out.i hrow hoth hz));have G3:Hid (w.grownBy w3 (some g)):=Lib.hid (gb_put G2.out hoth hz hbl (.inl rfl));clear hrow hoth hz hbl K2 G2))
 go_ret2
 exact⟨rfl,G3.out,K3.out⟩
theorem u_text{fs:List Fact}{gs:List Bx}{i g K:Nat}{most:Int}{A:Option Addr}{n c:Nat}{LA:Option Addr}{ln lc:Nat}{s:Sta}(w:World)(hO:Opn w fs gs i g K most A n c LA ln lc s)(hR:rwF∈fs)(hn:ln≤10000) :
  Calls Tryz.prog 106 #[.pointer (some ⟨g,0,none⟩)] w fun e w'=>e = .returned (.tuple #[.string (st (tS s.ls)),.int .i64 (tE s.ls)])∧w.grownBy w' (some g)∧Cls w' fs gs i g K most ⟨s.M,s.xs,tRs s.ls⟩:=by
 by_cases h:nC s.ls 7=0
 ·have e:tRs s.ls=s.ls.drop (tU s.ls):=by unfold tRs;rw[if_pos (show cT s.ls=0 from h)]
  rw[e]
  exact u_text_yes w hO hR hn h
 ·obtain⟨h1,h2,_⟩:=t_num (xs:=s.ls) h
  have e:tRs s.ls=s.ls:=by unfold tRs;rw[if_neg (show ¬cT s.ls=0 from h)]
  rw[h1,h2,e]
  refine(u_text_no w hO h).mono ?_
  rintro e w' ⟨rfl,hb⟩
  exact⟨rfl,gb_new hb,(hO.on hb).stay⟩
end Go.Proofs.YtahiajeggbpogaaGreatDoor
