import Derived.Test.YtahiajeggbpogaaGreatDoorUpO
import Derived.Test.YtahiajeggbpogaaGreatDoorUpR
set_option maxRecDepth 100000
namespace Go.Proofs.YtahiajeggbpogaaGreatDoor
open Go.RowKit Go.Shelf Px Tx Tb Up
set_option linter.unusedVariables false
set_option linter.unusedSimpArgs false
theorem Up.fs_nil(w:World)(B:Nat):Fs w B none 0 []:=⟨rfl,fun h=>absurd h (by omega)⟩
theorem Up.env_nil{w:World}{fs:List Fact}{gs:List Bx}(h:EnvF w fs gs):EnvF w (fF none 0 []::fs) gs:=
 h.fact (fs_nil w w.heap.size) (fun k hk=>absurd hk.1 (by omega))
end Go.Proofs.YtahiajeggbpogaaGreatDoor
set_option maxRecDepth 100000
set_option maxHeartbeats 4000000
namespace Go.Proofs.YtahiajeggbpogaaGreatDoor
open Go.RowKit Go.Shelf Px Tx Tb Up
set_option linter.unusedVariables false
set_option linter.unusedSimpArgs false
namespace Up
def grB(xs:List Fd):Bool:=decide (200<xs.length)||decide (9000<byts (xs.take 201))
theorem gr_end{xs:List Fd}{j:Nat}(h:j=xs.length∧j≤201∨j=201∧j≤xs.length):xs.take j=xs.take 201:=by
 rcases h with ⟨rfl,h⟩ | ⟨rfl,_⟩
 ·rw[List.take_length,List.take_of_length_le h]
 ·rfl
end Up
theorem v_Great(M:Int)(A:Option Addr)(n c:Nat)(xs:List Fd)(w:World)(hA:Fs w w.heap.size A n xs)(hn2:n≤c)(hcm:c≤maxLen)(hS : ∀x∈xs,x.1.size≤140737488355328∧x.2.size≤140737488355328) :
  Calls Tryz.prog 6 #[.agg #[.int .i64 M,.slice A n c]] w fun e w'=>e = .returned (.bool (grB xs))∧Below w.heap.size w w':=by
 have hn:=hA.1
 have K0:Hid (EnvF (w.alloc (.cells #[.int .i64 M,.slice A n c] 24)) [fF A n xs] [(w.heap.size,#[.int .i64 M,.slice A n c],24)]):=Lib.hid (((EnvF.nil w).addF hA).boxg 24 #[.int .i64 M,.slice A n c] (w.heap.size) (by simp))
 have B0:Hid (Below w.heap.size w (w.alloc (.cells #[.int .i64 M,.slice A n c] 24))):=Lib.hid ((Below.refl _ w).alloc (Nat.le_refl _) (.cells #[.int .i64 M,.slice A n c] 24))
 have HS:=Lib.hid hS
 have hcm2:n≤9223372036854775807:=by unfold maxLen at hcm;omega
 clear hA hS hcm
 go_enter Tryz.func6,Tryz.ntmps6
 go_wp2
 go_loopw [3,4] (fun t u wr=>∃j:Nat,j≤n∧j≤201∧t = .int .i64 (byts (xs.take j):Int)∧u = .int .i64 j∧EnvF wr [fF A n xs] [(w.heap.size,#[.int .i64 M,.slice A n c],24)]∧Below w.heap.size w wr) (fun _ u _=>n-(intOf u).toNat)
 case atStart=>exact⟨0,Nat.zero_le _,by omega,rfl,rfl,K0.out,B0.out⟩
 case round=>
  obtain⟨j,hj,hj2,rfl,rfl,hk,hbel⟩:=hrel
  have K1:=Lib.hid hk
  obtain⟨c0,c1⟩:=cells2_row (hk.row 0 rfl)
  have B1:=Lib.hid hbel
  have hby:=byts_take xs HS.out j (by omega)
  clear hbel hk K0 B0
  by_cases hend:j=n∨j=201
  ·have HT:=Lib.hid (gr_end (xs:=xs) (j:=j) (by omega))
   have hgb:grB xs=(decide (200<xs.length)||decide (9000<byts (xs.take j))):=by unfold grB;rw[HT.out]
   have HGB:=Lib.hid hgb
   clear hgb
   rcases Nat.lt_or_ge 200 n with h200 | h200
   ·have d3:decide ((200:Int)<(n:Int))=true:=decide_eq_true (by omega)
    have d4:decide (200<xs.length)=true:=decide_eq_true (by omega)
    rcases Nat.lt_or_ge j n with h1 | h1
    ·obtain rfl:j=201:=by omega
     have d1:decide ((201:Int)<(n:Int))=true:=decide_eq_true (by omega)
     go_wp2
     go_ret
     exact⟨(by rw[HGB.out,d4];rfl),B1.out⟩
    ·obtain rfl:j=n:=by omega
     go_wp2
     go_ret
     exact⟨(by rw[HGB.out,d4];rfl),B1.out⟩
   ·obtain rfl:j=n:=by omega
    have d3:decide ((200:Int)<(j:Int))=false:=decide_eq_false (by omega)
    have d4:decide (200<xs.length)=false:=decide_eq_false (by omega)
    have d5:decide ((9000:Int)<(byts (xs.take j):Int))=decide (9000<byts (xs.take j)):=by
     by_cases h:9000<byts (xs.take j)
     ·rw[decide_eq_true h,decide_eq_true (by omega)]
     ·rw[decide_eq_false h,decide_eq_false (by omega)]
    have D5:=Lib.hid d5
    clear d5
    go_wp2
    go_ret
    exact⟨(by rw[HGB.out,d4,←D5.out];rfl),B1.out⟩
  ·have hlt:j<n:=by omega
   have hle:j≤200:=by omega
   obtain⟨b,o,rfl,hb,hcc⟩:=fs_cell (K1.out.fs (A:=A) (n:=n) (xs:=xs) (by simp)) (by omega)
   obtain⟨x,hx,h1,h2⟩:=hcc j hlt
   rw[←Nat.add_assoc] at h2
   clear hcc
   have hs:=byts_succ hx
   have hxs:=HS.out x (List.mem_of_getElem? hx)
   have HSS:=Lib.hid hs
   have d1:decide ((j:Int)≤200)=true:=decide_eq_true (by omega)
   clear hend hs
   go_wp2
   go_region
   go_wp2
   go_roundw
   case rel=>exact⟨j+1,by omega,by omega,by rw[HSS.out];go_num,by go_num,K1.out.drew,B1.out.drew⟩
   case measure=>simp[intOf];omega
end Go.Proofs.YtahiajeggbpogaaGreatDoor
namespace Go.Proofs.YtahiajeggbpogaaGreatDoor.Up
open Go.RowKit Px Tx Tb
set_option linter.unusedVariables false
set_option linter.unusedSimpArgs false
theorem put_hd(n k u:Nat)(ys:List UInt8) : ∃m,m≤mx k∧hd (putN n k u++ys)=UInt8.ofNat (u / 2 ^ k*2 ^ k+m):=by
 unfold putN hd
 split
 ·rename_i h
  exact⟨n,by omega,rfl⟩
 ·exact⟨mx k,Nat.le_refl _,rfl⟩
theorem ofNat_of{m:Nat}(h:m<256):(UInt8.ofNat m).toNat=m:=by simp;omega
theorem mark_1(n:Nat)(ys:List UInt8):kk (hd (putN n 7 128++ys))=1∧kb (hd (putN n 7 128++ys))=7:=by
 obtain⟨m,h,e⟩:=put_hd n 7 128 ys
 have hm:m≤127:=h
 rw[e]
 have h1:128 / 2 ^ 7*2 ^ 7+m=128+m:=by omega
 rw[h1]
 unfold kk kb
 rw[ofNat_of (by omega),if_pos (by omega),if_pos (by omega)]
 exact⟨rfl,rfl⟩
theorem mark_2(n:Nat)(ys:List UInt8):kk (hd (putN n 6 64++ys))=2∧kb (hd (putN n 6 64++ys))=6:=by
 obtain⟨m,h,e⟩:=put_hd n 6 64 ys
 have hm:m≤63:=h
 rw[e]
 have h1:64 / 2 ^ 6*2 ^ 6+m=64+m:=by omega
 rw[h1]
 unfold kk kb
 rw[ofNat_of (by omega),if_neg (by omega),if_pos (by omega),if_neg (by omega),if_pos (by omega)]
 exact⟨rfl,rfl⟩
theorem mark_3(n:Nat)(ys:List UInt8):kk (hd (putN n 5 32++ys))=3∧kb (hd (putN n 5 32++ys))=5:=by
 obtain⟨m,h,e⟩:=put_hd n 5 32 ys
 have hm:m≤31:=h
 rw[e]
 have h1:32 / 2 ^ 5*2 ^ 5+m=32+m:=by omega
 rw[h1]
 unfold kk kb
 rw[ofNat_of (by omega),if_neg (by omega),if_neg (by omega),if_pos (by omega),if_neg (by omega),if_neg (by omega),if_pos (by omega)]
 exact⟨rfl,rfl⟩
theorem mark_4(n u:Nat)(hu:u=16∨u=0)(ys:List UInt8):kk (hd (putN n 4 u++ys))=4∧kb (hd (putN n 4 u++ys))=4:=by
 obtain⟨m,h,e⟩:=put_hd n 4 u ys
 have hm:m≤15:=h
 rw[e]
 have h1:u / 2 ^ 4*2 ^ 4+m=u+m:=by omega
 rw[h1]
 unfold kk kb
 rw[ofNat_of (by omega),if_neg (by omega),if_neg (by omega),if_neg (by omega),if_neg (by omega),if_neg (by omega),if_neg (by omega)]
 exact⟨rfl,rfl⟩
theorem num_back{n k u:Nat}(hk:k≤8)(hu:u<256)(hn:n<2 ^ 31)(ys:List UInt8):nC (putN n k u++ys) k=0∧nV (putN n k u++ys) k=n∧nR (putN n k u++ys) k=ys:=by
 have h:=take_put hk hu hn ys
 have h1:nC (putN n k u++ys) k=0:=by unfold nC;rw[h]
 refine⟨h1,by unfold nV;rw[h],?_⟩
 unfold nR nU
 rw[if_pos h1,h]
 simp
theorem put_ne(n k u:Nat)(ys:List UInt8):putN n k u++ys≠[]:=by
 unfold putN
 split<;>simp
theorem size_one{M most:Int}{xs:List Fd}{n:Nat}(hn:n<2 ^ 31)(ys:List UInt8) :
  zE most ⟨M,xs,putN n 5 32++ys⟩=(if most<(n:Int) then 100 else resE M xs n)∧(¬most<(n:Int)→zS most ⟨M,xs,putN n 5 32++ys⟩=⟨resM M xs n,resL M xs n,ys⟩):=by
 obtain⟨h1,h2⟩:=mark_3 n ys
 obtain⟨h3,h4,h5⟩:=num_back (k:=5) (u:=32) (by omega) (by omega) hn ys
 have e1:qC ⟨M,xs,putN n 5 32++ys⟩=0:=by unfold qC;simp only[h2,h3]
 have e2:qV ⟨M,xs,putN n 5 32++ys⟩=n:=by unfold qV;simp only[h2,h4]
 have e3:qR ⟨M,xs,putN n 5 32++ys⟩=ys:=by unfold qR;simp only[h2,h5]
 refine⟨?_,fun h=>?_⟩
 ·unfold zE;rw[e1,e2];simp
 ·unfold zS;rw[e1,e2,e3,if_neg (by omega),if_neg h]
theorem zs_size{M most:Int}{xs:List Fd}{n f:Nat}(hn:n<2 ^ 31)(ys:List UInt8) :
  (most<(n:Int)→(zs most (f+1) ⟨M,xs,putN n 5 32++ys⟩).1=100)∧(¬most<(n:Int)→resE M xs n=0→zs most (f+1) ⟨M,xs,putN n 5 32++ys⟩=zs most f ⟨resM M xs n,resL M xs n,ys⟩):=by
 obtain⟨h1,h2⟩:=size_one (M:=M) (most:=most) (xs:=xs) hn ys
 have h3 : ¬((⟨M,xs,putN n 5 32++ys⟩:Sta).ls=[]∨kk (hd (⟨M,xs,putN n 5 32++ys⟩:Sta).ls)≠3):=by
  simp only[put_ne,(mark_3 n ys).1]
  simp
 refine⟨fun h=>?_,fun h h0=>?_⟩
 ·unfold zs
  rw[if_neg h3,h1,if_pos h,if_pos (by omega)]
 ·conv=>lhs;unfold zs
  rw[if_neg h3,h1,if_neg h,h0,if_neg (by omega),h2 h]
theorem res_ok{M:Int}{xs:List Fd}{m:Int}(h:rightB M xs=true)(h0:0≤m)(h1:m≤4096):resE M xs m=0∧resM M xs m=m∧resL M xs m=keep m xs∧rightB m (keep m xs)=true:=by
 have hb:resB M xs m=true:=by unfold resB okB;rw[h,decide_eq_true h0,decide_eq_true h1];rfl
 refine⟨by unfold resE;rw[if_pos hb],by unfold resM;rw[if_pos hb],by unfold resL;rw[if_pos hb],?_⟩
 unfold rightB okB
 rw[decide_eq_true h0,decide_eq_true h1,decide_eq_true (keep_full _ h0)]
 rfl
theorem zs_nil{most:Int}{M:Int}{xs:List Fd} : ∀f,zs most f ⟨M,xs,[]⟩=(0,⟨M,xs,[]⟩)
 | 0=>rfl
 | f+1=>by unfold zs;rw[if_pos (Or.inl rfl)]
theorem put_pos(n k u:Nat):1≤(putN n k u).length:=by
 unfold putN
 split<;>simp
theorem be_back{s:List UInt8}(hs:s.length≤100000)(ys:List UInt8):tE (beB s++ys)=0∧tS (beB s++ys)=s∧tRs (beB s++ys)=ys:=by
 have h:tE (beB s++ys)=0∧tS (beB s++ys)=s∧tR (beB s++ys)=ys:=by
  unfold beB
  split
  ·rename_i h
   exact take_bi (by rw[hO_len];omega) ys
  ·exact take_pl (by omega) ys
 exact⟨h.1,h.2.1,(tR_eq h.1) ▸ h.2.2⟩
end Go.Proofs.YtahiajeggbpogaaGreatDoor.Up
