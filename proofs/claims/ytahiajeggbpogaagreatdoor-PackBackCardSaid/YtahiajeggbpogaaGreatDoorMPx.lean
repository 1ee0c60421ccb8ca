import Derived.WalkKit
import Derived.Test.YtahiajeggbpogaaGreatDoorChecked
import Derived.Test.YtahiajeggbpogaaGreatDoorMGa
import Derived.Stop.RegionWithIn
import Derived.Deep.RegionWith
import Derived.BigQuiet
import Derived.StillTailTactics
import Derived.Deep.RegionHeld3
import Derived.BigRegionIn
set_option maxRecDepth 100000
set_option maxHeartbeats 4000000
namespace Go.Proofs.YtahiajeggbpogaaGreatDoor.Px
set_option linter.unusedVariables false
def mx(k:Nat):Nat:=2 ^ k-1
def tailB(m:Nat):List UInt8:=if h:m<128 then [UInt8.ofNat m] else UInt8.ofNat (m % 128+128)::tailB (m / 128)
termination_by m
decreasing_by omega
def numB(n k:Nat):List UInt8:=if n<mx k then [UInt8.ofNat n] else UInt8.ofNat (mx k)::tailB (n-mx k)
def putN(n k u:Nat):List UInt8:=if n<mx k then [UInt8.ofNat (u / 2 ^ k*2 ^ k+n)] else UInt8.ofNat (u / 2 ^ k*2 ^ k+mx k)::tailB (n-mx k)
def scan(n:Nat)(j:Nat):List UInt8→Nat×Nat×Nat
 | []=>(10,0,0)
 | y::ys=>if 5≤j∨2 ^ 31≤n+y.toNat % 128*2 ^ (7*j) then (60,0,0) else if y.toNat<128 then (0,n+y.toNat % 128*2 ^ (7*j),j+1) else scan (n+y.toNat % 128*2 ^ (7*j)) (j+1) ys
def takeN(xs:List UInt8)(k:Nat):Nat×Nat×Nat:=
 match xs with
 | []=>(10,0,0)
 | x::ys=>if x.toNat % 2 ^ k<mx k then (0,x.toNat % 2 ^ k,1) else
  if (scan (mx k) 0 ys).1=0 then (0,(scan (mx k) 0 ys).2.1,(scan (mx k) 0 ys).2.2+1) else ((scan (mx k) 0 ys).1,0,0)
theorem mx_pos{k:Nat}(h:1≤k):1≤mx k:=by
 have:2 ^ 1≤2 ^ k:=Nat.pow_le_pow_right (by decide) h
 unfold mx;omega
theorem mx_le{k:Nat}(h:k≤8):mx k≤255:=by
 have:2 ^ k≤2 ^ 8:=Nat.pow_le_pow_right (by decide) h
 unfold mx;omega
theorem mx_succ(k:Nat):mx k+1=2 ^ k:=by have:=Nat.two_pow_pos k;unfold mx;omega
theorem tailB_lt{m:Nat}(h:m<128):tailB m=[UInt8.ofNat m]:=by rw[tailB,dif_pos h]
theorem tailB_ge{m:Nat}(h:128≤m):tailB m=UInt8.ofNat (m % 128+128)::tailB (m / 128):=by rw[tailB,dif_neg (by omega)]
theorem tailB_pos(m:Nat):0<(tailB m).length:=by
 rw[tailB];split<;>simp
theorem tailB_len(t:Nat) : ∀m,m<128 ^ (t+1)→(tailB m).length≤t+1:=by
 induction t with
 | zero=>intro m h;rw[tailB_lt (by simpa using h)];simp
 | succ t ih=>
  intro m h
  by_cases h1:m<128
  ·rw[tailB_lt h1];simp
  ·rw[tailB_ge (by omega),List.length_cons]
   have:=ih (m / 128) (by rw[Nat.pow_succ] at h;omega)
   omega
theorem tailB_le{m:Nat}(h:m<2 ^ 31):(tailB m).length≤5:=tailB_len 4 m (by omega)
theorem tailB_mono(t:Nat) : ∀m m',m'≤t→m≤m'→(tailB m).length≤(tailB m').length:=by
 induction t using Nat.strongRecOn with
 | _ t ih=>
  intro m m' ht hm
  by_cases h1:m'<128
  ·rw[tailB_lt h1,tailB_lt (by omega)];exact Nat.le_refl _
  ·rw[tailB_ge (m:=m') (by omega),List.length_cons]
   by_cases h2:m<128
   ·rw[tailB_lt h2];simp
   ·rw[tailB_ge (by omega),List.length_cons]
    have:=ih (m' / 128) (by omega) (m / 128) (m' / 128) (Nat.le_refl _) (by omega)
    omega
theorem tailB_more{m m':Nat}(h:m≤m'):(tailB m).length≤(tailB m').length:=tailB_mono m' m m' (Nat.le_refl _) h
theorem numB_len_putN(n k u:Nat):(putN n k u).length=(numB n k).length:=by
 unfold putN numB;split<;>simp
theorem numB_pos(n k:Nat):0<(numB n k).length:=by unfold numB;split<;>simp
theorem numB_len{n k:Nat}(h:n<2 ^ 31):(numB n k).length≤6:=by
 unfold numB
 split
 ·simp
 ·have:=tailB_le (m:=n-mx k) (by omega)
  simp only[List.length_cons]
  omega
theorem numB_more{n n' k:Nat}(h:n≤n'):(numB n k).length≤(numB n' k).length:=by
 unfold numB
 split
 ·split<;>simp
 ·rw[if_neg (by omega)]
  simp only[List.length_cons]
  exact Nat.succ_le_succ (tailB_more (by omega))
theorem scan_tail(bs:List UInt8) : ∀(t n j m:Nat),m≤t→j+(tailB m).length≤5→n+m*2 ^ (7*j)<2 ^ 31→scan n j (tailB m++bs)=(0,n+m*2 ^ (7*j),j+(tailB m).length):=by
 intro t
 induction t using Nat.strongRecOn with
 | _ t ih=>
  intro n j m ht hj hn
  by_cases h1:m<128
  ·rw[tailB_lt h1]
   have e:(UInt8.ofNat m).toNat=m:=by simp;omega
   rw[tailB_lt h1] at hj
   simp only[List.length_cons,List.length_nil] at hj
   simp only[List.cons_append,List.nil_append,scan,e,List.length_cons,List.length_nil]
   rw[Nat.mod_eq_of_lt h1,if_neg (by omega),if_pos h1]
  ·rw[tailB_ge (by omega)]
   rw[tailB_ge (by omega)] at hj
   simp only[List.length_cons] at hj
   have e:(UInt8.ofNat (m % 128+128)).toNat=m % 128+128:=by simp;omega
   have e2:(m % 128+128) % 128=m % 128:=by omega
   have hs:m*2 ^ (7*j)=m % 128*2 ^ (7*j)+m / 128*2 ^ (7*(j+1)):=by
    have h7:2 ^ (7*(j+1))=128*2 ^ (7*j):=by rw[show 7*(j+1)=7+7*j by omega,Nat.pow_add]
    rw[h7]
    generalize 2 ^ (7*j)=z
    rw[←Nat.mul_assoc,←Nat.add_mul]
    congr 1
    omega
   have hp:=tailB_pos (m / 128)
   simp only[List.cons_append,scan,e,e2,List.length_cons]
   rw[if_neg (by omega),if_neg (by omega),ih (m / 128) (by omega) _ _ (m / 128) (Nat.le_refl _) (by omega) (by omega)]
   simp only[Prod.mk.injEq,true_and]
   exact⟨by omega,by omega⟩
theorem scan_short : ∀(t n j m:Nat),m≤t→j+(tailB m).length≤5→n+m*2 ^ (7*j)<2 ^ 31→scan n j ((tailB m).take ((tailB m).length-1))=(10,0,0):=by
 intro t
 induction t using Nat.strongRecOn with
 | _ t ih=>
  intro n j m ht hj hn
  by_cases h1:m<128
  ·rw[tailB_lt h1];rfl
  ·rw[tailB_ge (by omega)]
   rw[tailB_ge (by omega)] at hj
   simp only[List.length_cons] at hj
   have e:(UInt8.ofNat (m % 128+128)).toNat=m % 128+128:=by simp;omega
   have e2:(m % 128+128) % 128=m % 128:=by omega
   have hs:m*2 ^ (7*j)=m % 128*2 ^ (7*j)+m / 128*2 ^ (7*(j+1)):=by
    have h7:2 ^ (7*(j+1))=128*2 ^ (7*j):=by rw[show 7*(j+1)=7+7*j by omega,Nat.pow_add]
    rw[h7]
    generalize 2 ^ (7*j)=z
    rw[←Nat.mul_assoc,←Nat.add_mul]
    congr 1
    omega
   have hp:=tailB_pos (m / 128)
   have e3:(tailB (m / 128)).length+1-1=(tailB (m / 128)).length-1+1:=by omega
   rw[List.length_cons,e3,List.take_succ_cons]
   simp only[scan,e,e2]
   rw[if_neg (by omega),if_neg (by omega)]
   exact ih (m / 128) (by omega) _ _ (m / 128) (Nat.le_refl _) (by omega) (by omega)
theorem scan_ok : ∀(ys:List UInt8) (n j N u:Nat),scan n j ys=(0,N,u)→N<2 ^ 31∧j+1≤u∧u≤5∧u≤j+ys.length∧n≤N∧N-n<2 ^ (7*u)∧(N-n) % 2 ^ (7*j)=0:=by
 intro ys
 induction ys with
 | nil=>intro n j N u h;simp[scan] at h
 | cons y ys ih=>
  intro n j N u h
  rw[scan] at h
  have hy:=Nat.mod_lt y.toNat (show 0<128 by decide)
  have hz:2 ^ (7*(j+1))=128*2 ^ (7*j):=by rw[show 7*(j+1)=7+7*j by omega,Nat.pow_add]
  have hzp:=Nat.two_pow_pos (7*j)
  split at h
  ·simp at h
  ·rename_i h1
   split at h
   ·simp only[Prod.mk.injEq,true_and] at h
    obtain⟨rfl,rfl⟩:=h
    refine⟨by omega,by omega,by omega,by simp,by omega,?_,?_⟩
    ·rw[hz,Nat.add_sub_cancel_left]
     generalize 2 ^ (7*j)=z at *
     exact Nat.mul_lt_mul_of_pos_right hy hzp
    ·rw[Nat.add_sub_cancel_left];exact Nat.mul_mod_left _ _
   ·obtain⟨a1,a2,a3,a4,a5,a6,a7⟩:=ih _ _ _ _ h
    have hlow:y.toNat % 128*2 ^ (7*j)<2 ^ (7*(j+1)):=by rw[hz];exact Nat.mul_lt_mul_of_pos_right hy hzp
    have hdv:2 ^ (7*(j+1)) ∣ 2 ^ (7*u):=Nat.pow_dvd_pow 2 (by omega)
    have hdm:=Nat.dvd_of_mod_eq_zero a7
    have e1:N-n=(N-(n+y.toNat % 128*2 ^ (7*j)))+y.toNat % 128*2 ^ (7*j):=by omega
    refine⟨a1,by omega,a3,by simp only[List.length_cons];omega,by omega,?_,?_⟩
    ·rw[e1]
     obtain⟨q,hq⟩:=hdm
     obtain⟨r,hr⟩:=hdv
     rw[hq] at a6 ⊢
     rw[hr] at a6 ⊢
     have hqr:q<r:=Nat.lt_of_mul_lt_mul_left a6
     have:2 ^ (7*(j+1))*q+2 ^ (7*(j+1))≤2 ^ (7*(j+1))*r:=by
      rw[←Nat.mul_succ];exact Nat.mul_le_mul_left _ hqr
     omega
    ·rw[e1,Nat.add_mod]
     have h2:2 ^ (7*j) ∣ 2 ^ (7*(j+1)):=Nat.pow_dvd_pow 2 (by omega)
     rw[Nat.mod_eq_zero_of_dvd (Nat.dvd_trans h2 hdm),Nat.mul_mod_left]
     exact Nat.zero_mod _
theorem byte_lo(u k n:Nat)(hk:k≤8)(hu:u<256)(hn:n<2 ^ k):(UInt8.ofNat (u / 2 ^ k*2 ^ k+n)).toNat=u / 2 ^ k*2 ^ k+n:=by
 have h:u / 2 ^ k*2 ^ k+n<256:=by
  have h1:u / 2 ^ k<2 ^ (8-k):=by
   rw[Nat.div_lt_iff_lt_mul (Nat.two_pow_pos k),←Nat.pow_add]
   rw[show 8-k+k=8 by omega];exact hu
  have h2:(u / 2 ^ k+1)*2 ^ k≤2 ^ (8-k)*2 ^ k:=Nat.mul_le_mul_right _ h1
  rw[←Nat.pow_add,show 8-k+k=8 by omega,Nat.add_mul,Nat.one_mul] at h2
  omega
 simp
 omega
theorem byte_mod(u k n:Nat)(hk:k≤8)(hu:u<256)(hn:n<2 ^ k):(UInt8.ofNat (u / 2 ^ k*2 ^ k+n)).toNat % 2 ^ k=n:=by
 rw[byte_lo u k n hk hu hn,Nat.add_comm,Nat.add_mul_mod_self_right,Nat.mod_eq_of_lt hn]
theorem take_put{n k u:Nat}(hk:k≤8)(hu:u<256)(hn:n<2 ^ 31)(bs:List UInt8):takeN (putN n k u++bs) k=(0,n,(putN n k u).length):=by
 have h0:=mx_succ k
 unfold putN
 split
 ·rename_i h
  simp only[List.cons_append,List.nil_append,takeN,List.length_cons,List.length_nil]
  rw[byte_mod u k n hk hu (by omega),if_pos h]
 ·rename_i h
  simp only[List.cons_append,takeN,List.length_cons]
  rw[byte_mod u k (mx k) hk hu (by omega),if_neg (by omega)]
  have h1:=tailB_le (m:=n-mx k) (by omega)
  rw[scan_tail bs _ (mx k) 0 (n-mx k) (Nat.le_refl _) (by omega) (by simp;omega)]
  simp
  omega
theorem take_short{n k u:Nat}(hk:k≤8)(hu:u<256)(hn:n<2 ^ 31):takeN ((putN n k u).take ((putN n k u).length-1)) k=(10,0,0):=by
 have h0:=mx_succ k
 unfold putN
 split
 ·rfl
 ·rename_i h
  have hp:=tailB_pos (n-mx k)
  have e3:(tailB (n-mx k)).length+1-1=(tailB (n-mx k)).length-1+1:=by omega
  rw[List.length_cons,e3,List.take_succ_cons]
  simp only[takeN]
  rw[byte_mod u k (mx k) hk hu (by omega),if_neg (by omega)]
  have h1:=tailB_le (m:=n-mx k) (by omega)
  rw[scan_short _ (mx k) 0 (n-mx k) (Nat.le_refl _) (by omega) (by simp;omega)]
  rfl
theorem take_only{xs:List UInt8}{k n used:Nat}(hk:k≤8)(h:takeN xs k=(0,n,used)):n<2 ^ 31∧1≤used∧used≤6∧used≤xs.length∧(numB n k).length≤used:=by
 have h0:=mx_succ k
 have h8:=mx_le hk
 unfold takeN at h
 cases xs with
 | nil=>simp at h
 | cons x ys=>
  simp only at h
  split at h
  ·rename_i h1
   simp only[Prod.mk.injEq,true_and] at h
   obtain⟨rfl,rfl⟩:=h
   refine⟨by omega,by omega,by omega,by simp,?_⟩
   unfold numB
   rw[if_pos h1]
   simp
  ·split at h
   ·rename_i h2
    simp only[Prod.mk.injEq,true_and] at h
    generalize hs:scan (mx k) 0 ys=s at *
    obtain⟨s1,s2,s3⟩:=s
    simp only at h h2
    obtain⟨rfl,rfl⟩:=h
    subst h2
    obtain⟨a1,a2,a3,a4,a5,a6,_⟩:=scan_ok ys (mx k) 0 _ _ hs
    refine⟨a1,by omega,by omega,by simp only[List.length_cons];omega,?_⟩
    unfold numB
    rw[if_neg (by omega),List.length_cons]
    have e:2 ^ (7*s3)=128 ^ s3:=by rw[Nat.pow_mul]
    obtain⟨t,ht⟩ : ∃t,s3=t+1:=⟨s3-1,by omega⟩
    rw[e,ht] at a6
    have:=tailB_len t _ a6
    omega
   ·rename_i h2
    simp only[Prod.mk.injEq] at h
    exact absurd h.1 h2
end Go.Proofs.YtahiajeggbpogaaGreatDoor.Px
namespace Go.Proofs.YtahiajeggbpogaaGreatDoor
open Go.RowKit Px
set_option linter.unusedVariables false
set_option linter.unusedSimpArgs false
namespace Px
theorem bits8{k:Nat}(h1:1≤k)(h8:k≤8):k=1∨k=2∨k=3∨k=4∨k=5∨k=6∨k=7∨k=8:=by omega
def MayN(n k:Int):Prop:=(1≤k∧k≤8)∧0≤n∧n<2147483648
instance (n k:Int):Decidable (MayN n k):=inferInstanceAs (Decidable (_∧_))
end Px
theorem x_sized_yes(k:Int)(w:World)(h:1≤k∧k≤8):Calls Tryz.prog 108 #[.int .i64 k] w fun e w'=>e = .returned (.bool true)∧w=w':=by
 have d1:decide (1≤k)=true:=decide_eq_true h.1
 have d2:decide (k≤8)=true:=decide_eq_true h.2
 clear h
 go_enter Tryz.func108,Tryz.ntmps108
 go_wp2
 go_ret
 exact⟨rfl,rfl⟩
theorem x_sized_no(k:Int)(w:World)(h : ¬(1≤k∧k≤8)):Calls Tryz.prog 108 #[.int .i64 k] w fun e w'=>e = .returned (.bool false)∧w=w':=by
 by_cases h1:1≤k
 ·have d1:decide (1≤k)=true:=decide_eq_true h1
  have d2:decide (k≤8)=false:=decide_eq_false (by omega)
  clear h
  go_enter Tryz.func108,Tryz.ntmps108
  go_wp2
  go_ret
  exact⟨rfl,rfl⟩
 ·have d1:decide (1≤k)=false:=decide_eq_false h1
  clear h
  go_enter Tryz.func108,Tryz.ntmps108
  go_wp2
  go_ret
  exact⟨rfl,rfl⟩
theorem x_fits(n k:Int)(w:World):Calls Tryz.prog 92 #[.int .i64 n,.int .i64 k] w fun e w'=>e = .returned (.bool (decide (MayN n k)))∧w=w':=by
 by_cases h:1≤k∧k≤8
 ·rw[show decide (MayN n k)=(n / 2147483648==0) from by
   by_cases h2:0≤n∧n<2147483648
   ·rw[decide_eq_true (show MayN n k from⟨h,h2⟩)];symm;rw[beq_iff_eq];omega
   ·rw[decide_eq_false (show ¬MayN n k from fun h3=>h2 h3.2)];symm;rw[beq_eq_false_iff_ne];omega]
  go_enter Tryz.func92,Tryz.ntmps92
  go_wp2_with (go_at_call 108;(with_reducible refine(x_sized_yes _ _ h).mono ?_);rintro e w' ⟨rfl,rfl⟩)
  go_ret
  exact⟨rfl,rfl⟩
 ·rw[decide_eq_false (show ¬MayN n k from fun h3=>h h3.1)]
  go_enter Tryz.func92,Tryz.ntmps92
  go_wp2_with (go_at_call 108;(with_reducible refine(x_sized_no _ _ h).mono ?_);rintro e w' ⟨rfl,rfl⟩)
  go_ret
  exact⟨rfl,rfl⟩
theorem x_may(n k:Int)(w:World):Calls Tryz.prog 72 #[.int .i64 n,.int .i64 k] w fun e w'=>e = .returned (.bool (decide (MayN n k)))∧w=w':=by
 by_cases h1:1≤k
 ·have d1:decide (1≤k)=true:=decide_eq_true h1
  by_cases h2:k≤8
  ·have d2:decide (k≤8)=true:=decide_eq_true h2
   by_cases h3:0≤n
   ·have d3:decide (0≤n)=true:=decide_eq_true h3
    rw[show decide (MayN n k)=decide (n<2147483648) from by
     by_cases h4:n<2147483648
     ·rw[decide_eq_true h4,decide_eq_true (show MayN n k from⟨⟨h1,h2⟩,h3,h4⟩)]
     ·rw[decide_eq_false h4,decide_eq_false (show ¬MayN n k from fun h=>h4 h.2.2)]]
    go_enter Tryz.func72,Tryz.ntmps72
    go_wp2
    go_ret
    exact⟨rfl,rfl⟩
   ·have d3:decide (0≤n)=false:=decide_eq_false h3
    rw[decide_eq_false (show ¬MayN n k from fun h=>h3 h.2.1)]
    go_enter Tryz.func72,Tryz.ntmps72
    go_wp2
    go_ret
    exact⟨rfl,rfl⟩
  ·have d2:decide (k≤8)=false:=decide_eq_false h2
   rw[decide_eq_false (show ¬MayN n k from fun h=>h2 h.1.2)]
   go_enter Tryz.func72,Tryz.ntmps72
   go_wp2
   go_ret
   exact⟨rfl,rfl⟩
 ·have d1:decide (1≤k)=false:=decide_eq_false h1
  rw[decide_eq_false (show ¬MayN n k from fun h=>h1 h.1.1)]
  go_enter Tryz.func72,Tryz.ntmps72
  go_wp2
  go_ret
  exact⟨rfl,rfl⟩
theorem x_full1(w:World):Calls Tryz.prog 94 #[.int .i64 1] w fun e w'=>e = .returned (.int .u8 1)∧w=w':=by
 go_enter Tryz.func94,Tryz.ntmps94
 go_wp2
 go_ret
 exact⟨rfl,rfl⟩
theorem x_most1(w:World):Calls Tryz.prog 73 #[.int .i64 1] w fun e w'=>e = .returned (.int .i64 1)∧w=w':=by
 go_enter Tryz.func73,Tryz.ntmps73
 go_wp2
 go_ret
 exact⟨rfl,rfl⟩
theorem x_full2(w:World):Calls Tryz.prog 94 #[.int .i64 2] w fun e w'=>e = .returned (.int .u8 3)∧w=w':=by
 go_enter Tryz.func94,Tryz.ntmps94
 go_wp2
 go_ret
 exact⟨rfl,rfl⟩
theorem x_most2(w:World):Calls Tryz.prog 73 #[.int .i64 2] w fun e w'=>e = .returned (.int .i64 3)∧w=w':=by
 go_enter Tryz.func73,Tryz.ntmps73
 go_wp2
 go_ret
 exact⟨rfl,rfl⟩
theorem x_full3(w:World):Calls Tryz.prog 94 #[.int .i64 3] w fun e w'=>e = .returned (.int .u8 7)∧w=w':=by
 go_enter Tryz.func94,Tryz.ntmps94
 go_wp2
 go_ret
 exact⟨rfl,rfl⟩
theorem x_most3(w:World):Calls Tryz.prog 73 #[.int .i64 3] w fun e w'=>e = .returned (.int .i64 7)∧w=w':=by
 go_enter Tryz.func73,Tryz.ntmps73
 go_wp2
 go_ret
 exact⟨rfl,rfl⟩
theorem x_full4(w:World):Calls Tryz.prog 94 #[.int .i64 4] w fun e w'=>e = .returned (.int .u8 15)∧w=w':=by
 go_enter Tryz.func94,Tryz.ntmps94
 go_wp2
 go_ret
 exact⟨rfl,rfl⟩
theorem x_most4(w:World):Calls Tryz.prog 73 #[.int .i64 4] w fun e w'=>e = .returned (.int .i64 15)∧w=w':=by
 go_enter Tryz.func73,Tryz.ntmps73
 go_wp2
 go_ret
 exact⟨rfl,rfl⟩
theorem x_full5(w:World):Calls Tryz.prog 94 #[.int .i64 5] w fun e w'=>e = .returned (.int .u8 31)∧w=w':=by
 go_enter Tryz.func94,Tryz.ntmps94
 go_wp2
 go_ret
 exact⟨rfl,rfl⟩
theorem x_most5(w:World):Calls Tryz.prog 73 #[.int .i64 5] w fun e w'=>e = .returned (.int .i64 31)∧w=w':=by
 go_enter Tryz.func73,Tryz.ntmps73
 go_wp2
 go_ret
 exact⟨rfl,rfl⟩
theorem x_full6(w:World):Calls Tryz.prog 94 #[.int .i64 6] w fun e w'=>e = .returned (.int .u8 63)∧w=w':=by
 go_enter Tryz.func94,Tryz.ntmps94
 go_wp2
 go_ret
 exact⟨rfl,rfl⟩
theorem x_most6(w:World):Calls Tryz.prog 73 #[.int .i64 6] w fun e w'=>e = .returned (.int .i64 63)∧w=w':=by
 go_enter Tryz.func73,Tryz.ntmps73
 go_wp2
 go_ret
 exact⟨rfl,rfl⟩
theorem x_full7(w:World):Calls Tryz.prog 94 #[.int .i64 7] w fun e w'=>e = .returned (.int .u8 127)∧w=w':=by
 go_enter Tryz.func94,Tryz.ntmps94
 go_wp2
 go_ret
 exact⟨rfl,rfl⟩
theorem x_most7(w:World):Calls Tryz.prog 73 #[.int .i64 7] w fun e w'=>e = .returned (.int .i64 127)∧w=w':=by
 go_enter Tryz.func73,Tryz.ntmps73
 go_wp2
 go_ret
 exact⟨rfl,rfl⟩
theorem x_full8(w:World):Calls Tryz.prog 94 #[.int .i64 8] w fun e w'=>e = .returned (.int .u8 255)∧w=w':=by
 go_enter Tryz.func94,Tryz.ntmps94
 go_wp2
 go_ret
 exact⟨rfl,rfl⟩
theorem x_most8(w:World):Calls Tryz.prog 73 #[.int .i64 8] w fun e w'=>e = .returned (.int .i64 255)∧w=w':=by
 go_enter Tryz.func73,Tryz.ntmps73
 go_wp2
 go_ret
 exact⟨rfl,rfl⟩
theorem x_full(k:Nat)(w:World)(h1:1≤k)(h8:k≤8):Calls Tryz.prog 94 #[.int .i64 (k:Int)] w fun e w'=>e = .returned (.int .u8 (mx k:Int))∧w=w':=by
 rcases bits8 h1 h8 with rfl | rfl | rfl | rfl | rfl | rfl | rfl | rfl
 ·exact x_full1 w
 ·exact x_full2 w
 ·exact x_full3 w
 ·exact x_full4 w
 ·exact x_full5 w
 ·exact x_full6 w
 ·exact x_full7 w
 ·exact x_full8 w
theorem x_most(k:Nat)(w:World)(h1:1≤k)(h8:k≤8):Calls Tryz.prog 73 #[.int .i64 (k:Int)] w fun e w'=>e = .returned (.int .i64 (mx k:Int))∧w=w':=by
 rcases bits8 h1 h8 with rfl | rfl | rfl | rfl | rfl | rfl | rfl | rfl
 ·exact x_most1 w
 ·exact x_most2 w
 ·exact x_most3 w
 ·exact x_most4 w
 ·exact x_most5 w
 ·exact x_most6 w
 ·exact x_most7 w
 ·exact x_most8 w
theorem x_begun_no(A:Option Addr)(n c:Nat)(k:Int)(w:World)(h : ¬(1≤k∧k≤8)):Calls Tryz.prog 136 #[.slice A n c,.int .i64 k] w fun e w'=>e = .returned (.int .i64 2)∧w=w':=by
 go_enter Tryz.func136,Tryz.ntmps136
 go_wp2_with (go_at_call 108;(with_reducible refine(x_sized_no _ _ h).mono ?_);rintro e w' ⟨rfl,rfl⟩)
 go_ret
 exact⟨rfl,rfl⟩
theorem x_begun_yes(A:Option Addr)(n c:Nat)(k:Int)(w:World)(h:1≤k∧k≤8):Calls Tryz.prog 136 #[.slice A n c,.int .i64 k] w fun e w'=>e = .returned (.int .i64 (if n=0 then 10 else 0))∧w=w':=by
 by_cases h0:n=0
 ·subst h0
  go_enter Tryz.func136,Tryz.ntmps136
  go_wp2_with (go_at_call 108;(with_reducible refine(x_sized_yes _ _ h).mono ?_);rintro e w' ⟨rfl,rfl⟩)
  go_ret
  exact⟨rfl,rfl⟩
 ·rw[if_neg h0]
  have d1:((n:Int)==0)=false:=by rw[beq_eq_false_iff_ne];omega
  clear h0
  go_enter Tryz.func136,Tryz.ntmps136
  go_wp2_with (go_at_call 108;(with_reducible refine(x_sized_yes _ _ h).mono ?_);rintro e w' ⟨rfl,rfl⟩)
  go_ret
  exact⟨rfl,rfl⟩
theorem x_octets(n k:Int)(w:World):Calls Tryz.prog 93 #[.int .i64 n,.int .i64 k] w fun e w'=>
   e = .returned (.func (.func 109) #[] #[.pointer (some ⟨w.heap.size+1,0,none⟩),.pointer (some ⟨w.heap.size,0,none⟩)])∧(w.alloc (.cells #[.int .i64 n] 3)).alloc (.cells #[.int .i64 k] 3)=w':=by
 go_enter Tryz.func93,Tryz.ntmps93
 go_wp2
 go_ret
 exact⟨rfl,rfl⟩
end Go.Proofs.YtahiajeggbpogaaGreatDoor
namespace Go.Proofs.YtahiajeggbpogaaGreatDoor
open Go.RowKit Px
set_option linter.unusedVariables false
set_option linter.unusedSimpArgs false
namespace Px
theorem w64{x:Int}(h : -9223372036854775808≤x∧x≤9223372036854775807):wrap64 x=x:=IntWalk.wrap64_in x h
theorem hi_byte(u M n:Nat)(hu:u<256)(hM:M≤255)(hn:n≤M)(hhi:u / (M+1)*(M+1)≤255)(hfit:(UInt8.ofNat (u / (M+1)*(M+1)+n)).toNat=u / (M+1)*(M+1)+n) :
  wrap64 (wrap64 ((u:Int) / ((M:Int)+1))*((M:Int)+1))=((u / (M+1)*(M+1):Nat):Int)∧wrap64 (wrap64 (wrap64 ((u:Int) / ((M:Int)+1))*((M:Int)+1))+(n:Int)) % 256=((UInt8.ofNat (u / (M+1)*(M+1)+n)).toNat:Int):=by
 have e1:(u:Int) / ((M:Int)+1)=((u / (M+1):Nat):Int):=by rw[Int.natCast_ediv];rfl
 have h1:u / (M+1)≤u:=Nat.div_le_self _ _
 rw[e1]
 clear e1
 generalize u / (M+1)=r at *
 have e2:(r:Int)*((M:Int)+1)=((r*(M+1):Nat):Int):=by rw[Int.natCast_mul];rfl
 rw[w64 (x:=(r:Int)) (by omega),e2,hfit]
 have h256:r*(M+1)+n<256:=by rw[←hfit];exact UInt8.toNat_lt _
 clear e2 hfit
 generalize r*(M+1)=q at *
 rw[w64 (x:=(q:Int)) (by omega),w64 (x:=(q:Int)+(n:Int)) (by omega)]
 exact⟨rfl,by omega⟩
theorem ownB_one(w:World)(t:TypeId)(B:Nat)(x:UInt8)(v:Value)(hv:v = .int .u8 (x.toNat:Int))(hB:B≤w.heap.size):OwnB (w.alloc (.cells #[v] t)) B t (.slice (some ⟨w.heap.size,0,none⟩) 1 1) [x]:=by
 subst hv
 exact⟨by simp,.inr ⟨w.heap.size,1,#[.int .u8 (x.toNat:Int)],rfl,hB,World.alloc_heap_new w _,Nat.le_refl _,by simp[maxLen],rfl,rfl⟩⟩
theorem byte128(m:Nat):((UInt8.ofNat (m % 128+128)).toNat:Int)=(m:Int) % 128+128:=by simp;omega
theorem byteLt{m:Nat}(h:m<128):((UInt8.ofNat m).toNat:Int)=(m:Int):=by simp;omega
theorem hi_of(u k:Nat)(hu:u<256):u / 2 ^ k*2 ^ k≤255:=by have:=Nat.div_mul_le_self u (2 ^ k);omega
end Px
theorem y_put_no(n k:Int)(u:UInt8)(w:World)(h : ¬MayN n k) :
  Calls Tryz.prog 47 #[.int .i64 n,.int .i64 k,.int .u8 (u.toNat:Int)] w fun e w'=>e = .returned (.tuple #[.slice none 0 0,.int .i64 2])∧Below w.heap.size w w':=by
 have hd:decide (MayN n k)=false:=decide_eq_false h
 clear h
 go_enter Tryz.func47,Tryz.ntmps47
 go_wp2_with (go_at_call 72;(with_reducible refine(x_may _ _ _).mono ?_);rintro e w' ⟨rfl,rfl⟩;rw[hd])
 go_ret2
 exact⟨rfl,Below.refl _ _⟩
theorem y_put_one(n k:Nat)(u:UInt8)(w:World)(h1:1≤k)(h8:k≤8)(hn:n<mx k) :
  Calls Tryz.prog 47 #[.int .i64 (n:Int),.int .i64 (k:Int),.int .u8 (u.toNat:Int)] w fun e w'=>∃A c,e = .returned (.tuple #[.slice A 1 c,.int .i64 0])∧HandS w' w.heap.size A 1 c [UInt8.ofNat (u.toNat / 2 ^ k*2 ^ k+n)]∧Below w.heap.size w w':=by
 have hn2:=mx_le h8
 have hd:decide (MayN (n:Int) (k:Int))=true:=decide_eq_true ⟨⟨by omega,by omega⟩,by omega,by omega⟩
 have HF:Hid (∀w,Calls Tryz.prog 73 #[.int .i64 (k:Int)] w fun e w'=>e = .returned (.int .i64 (mx k:Int))∧w=w'):=Lib.hid (fun w=>x_most k w h1 h8)
 have hM1:=mx_pos h1
 have hM8:=mx_le h8
 have hMs:=mx_succ k
 have hul:=u.toNat_lt
 have hhi:=hi_of u.toNat k hul
 have hfit:=byte_lo u.toNat k n h8 hul (by omega)
 rw[←hMs] at hhi hfit ⊢
 clear hMs
 generalize mx k=M at *
 have HBY:=Lib.hid (hi_byte u.toNat M n hul (by omega) (by omega) hhi hfit)
 have hlt:decide ((n:Int)<(M:Int))=true:=decide_eq_true (by omega)
 go_enter Tryz.func47,Tryz.ntmps47
 go_wp2_with (first | (go_at_call 72;(with_reducible refine(x_may _ _ _).mono ?_);rintro e w' ⟨rfl,rfl⟩;rw[hd]) | (go_at_call 73;(with_reducible refine(HF.out _).mono ?_);rintro e w' ⟨rfl,rfl⟩))
 go_ret2
 have hh:=bs_lit w 5 [UInt8.ofNat (u.toNat / (M+1)*(M+1)+n)] #[.int .u8 (wrap64 (wrap64 (wrap64 ((u.toNat:Int) / ((M:Int)+1))*((M:Int)+1))+(n:Int)) % 256)] w.heap.size rfl (by rw[HBY.out.2];simp[bv])
 exact⟨_,_,rfl,⟨hh.more (by simp),fun _ b o e=>by cases e;exact Nat.le_refl _,Nat.le_refl _,fun e=>by cases e⟩,(Below.refl _ w).alloc (Nat.le_refl _) _⟩
theorem y_put_more(n k:Nat)(u:UInt8)(w:World)(h1:1≤k)(h8:k≤8)(hn:n<2147483648)(hge:mx k≤n) :
  Calls Tryz.prog 47 #[.int .i64 (n:Int),.int .i64 (k:Int),.int .u8 (u.toNat:Int)] w fun e w'=>∃A c,e = .returned (.tuple #[.slice A (tailB (n-mx k)).length.succ c,.int .i64 0])∧HandS w' w.heap.size A (tailB (n-mx k)).length.succ c (UInt8.ofNat (u.toNat / 2 ^ k*2 ^ k+mx k)::tailB (n-mx k))∧Below w.heap.size w w':=by
 obtain⟨i0,hi,hz0,hz1,hz2⟩:=info_parts info_u8
 have hinf:=Lib.hid (And.intro hi (And.intro hz0 (And.intro hz1 hz2)))
 clear hi hz0 hz1 hz2
 have hd:decide (MayN (n:Int) (k:Int))=true:=decide_eq_true ⟨⟨by omega,by omega⟩,by omega,by omega⟩
 have HF:Hid (∀w,Calls Tryz.prog 73 #[.int .i64 (k:Int)] w fun e w'=>e = .returned (.int .i64 (mx k:Int))∧w=w'):=Lib.hid (fun w=>x_most k w h1 h8)
 have hM1:=mx_pos h1
 have hM8:=mx_le h8
 have hMs:=mx_succ k
 have hul:=u.toNat_lt
 have hhi:=hi_of u.toNat k hul
 have hfit:=byte_lo u.toNat k (mx k) h8 hul (by omega)
 rw[←hMs] at hhi hfit ⊢
 clear hMs
 generalize mx k=M at *
 have HBY:=Lib.hid (hi_byte u.toNat M M hul (by omega) (Nat.le_refl _) hhi hfit)
 have hlt:decide ((n:Int)<(M:Int))=false:=decide_eq_false (by omega)
 have hlt2:decide (n<M)=false:=decide_eq_false (by omega)
 have hT:=tailB_le (m:=n-M) (by omega)
 have HT:=Lib.hid hT
 generalize UInt8.ofNat (u.toNat / (M+1)*(M+1)+M)=B0 at *
 clear hhi hfit hT
 go_enter Tryz.func47,Tryz.ntmps47
 go_wp2_with (first | (go_at_call 72;(with_reducible refine(x_may _ _ _).mono ?_);rintro e w' ⟨rfl,rfl⟩;rw[hd]) | (go_at_call 73;(with_reducible refine(HF.out _).mono ?_);rintro e w' ⟨rfl,rfl⟩))
 go_loopw [0,10] (fun a v wr=>∃(m:Nat) (ys:List UInt8),a = .int .i64 (m:Int)∧m<2147483648∧ys++tailB m=tailB (n-M)∧OwnB wr w.heap.size 5 v (B0::ys)∧Below w.heap.size w wr) (fun a _ _=>(intOf a).toNat)
 case atStart=>
  refine⟨n-M,[],?_,by omega,rfl,ownB_one _ _ _ _ _ (by rw[HBY.out.2]) (Nat.le_refl _),(Below.refl _ w).alloc (Nat.le_refl _) _⟩
  rw[show((n-M:Nat):Int)=(n:Int)-(M:Int) from by omega]
 case round=>
  obtain⟨m,ys,rfl,hm,hys,hown,hbel⟩:=hrel
  obtain⟨A,c,rfl,_⟩:=hown.form
  have hyl:ys.length≤5:=by have:=congrArg List.length hys;rw[List.length_append] at this;have:=HT.out;omega
  have HO:=Lib.hid hown
  have HB:=Lib.hid hbel
  have HYS:=Lib.hid hys
  clear hown hbel hys
  by_cases h128:128≤m
  ·have ht:=tailB_ge h128
   have HTT:=Lib.hid ht
   have HX:=Lib.hid (byte128 m)
   have hsz:=HB.out.size
   clear ht
   go_wp2_with (at_builtin;refine wpList_append_bytes _ rfl (.tmp 43) (.tmp 48) 25 rfl w.heap.size 5 i0 Tryz.underlying25 hinf.out.1 hinf.out.2.1 hinf.out.2.2.1 hinf.out.2.2.2 _ (B0::ys) rfl (HO.out.alloc _) _ (some ⟨wr.heap.size,0,none⟩) 1 1 [UInt8.ofNat (m % 128+128)] rfl (bs_lit wr 5 [UInt8.ofNat (m % 128+128)] _ wr.heap.size rfl (by simp only[List.map_cons,List.map_nil,bv];rw[HX.out])) (fun e=>by cases e) (by simp;omega) (by simp;omega) ?_;intro v2 w2 ho2 hb2;have HO2:=Lib.hid ho2;have HB2:=Lib.hid ((HB.out.alloc hsz _).trans hb2);clear ho2 hb2)
   go_roundw
   case rel=>
    refine⟨m / 128,ys++[UInt8.ofNat (m % 128+128)],by rw[show((m / 128:Nat):Int)=(m:Int) / 128 from by omega],by omega,?_,HO2.out,HB2.out⟩
    rw[List.append_assoc,List.singleton_append,←HTT.out]
    exact HYS.out
   case measure=>simp only[intOf];omega
  ·have ht:=tailB_lt (show m<128 by omega)
   have HTT:=Lib.hid ht
   have HX:=Lib.hid (byteLt (show m<128 by omega))
   have hsz:=HB.out.size
   clear ht
   go_wp2_with (at_builtin;refine wpList_append_bytes _ rfl (.tmp 52) (.tmp 55) 25 rfl w.heap.size 5 i0 Tryz.underlying25 hinf.out.1 hinf.out.2.1 hinf.out.2.2.1 hinf.out.2.2.2 _ (B0::ys) rfl (HO.out.alloc _) _ (some ⟨wr.heap.size,0,none⟩) 1 1 [UInt8.ofNat m] rfl (bs_lit wr 5 [UInt8.ofNat m] _ wr.heap.size rfl (by simp only[List.map_cons,List.map_nil,bv];rw[HX.out])) (fun e=>by cases e) (by simp;omega) (by simp;omega) ?_;intro v2 w2 ho2 hb2;obtain⟨A2,c2,rfl,hh⟩:=ho2.handS (n:=(ys++tailB m).length+1) (by rw[HTT.out];simp);have HH:=Lib.hid hh;have HB2:=Lib.hid ((HB.out.alloc hsz _).trans hb2);clear ho2 hb2 hh)
   have hys:=HYS.out
   rw[HTT.out] at hys
   have hlen:(tailB (n-M)).length=ys.length+1:=by rw[←hys];simp
   have hh:=HH.out
   rw[List.cons_append,hys] at hh
   have hb2:=HB2.out
   go_ret2
   refine⟨A2,c2,by rw[hlen];simp[HTT.out],?_,hb2⟩
   rw[show(tailB (n-M)).length.succ=(ys++tailB m).length+1 from by rw[HYS.out]]
   exact hh
theorem y_put_yes(n k:Nat)(u:UInt8)(w:World)(h1:1≤k)(h8:k≤8)(hn:n<2147483648) :
  Calls Tryz.prog 47 #[.int .i64 (n:Int),.int .i64 (k:Int),.int .u8 (u.toNat:Int)] w fun e w'=>∃A c,e = .returned (.tuple #[.slice A (numB n k).length c,.int .i64 0])∧HandS w' w.heap.size A (numB n k).length c (putN n k u.toNat)∧Below w.heap.size w w':=by
 by_cases h:n<mx k
 ·rw[show numB n k=[UInt8.ofNat n] from if_pos h,show putN n k u.toNat=[UInt8.ofNat (u.toNat / 2 ^ k*2 ^ k+n)] from if_pos h]
  exact y_put_one n k u w h1 h8 h
 ·rw[show numB n k=UInt8.ofNat (mx k)::tailB (n-mx k) from if_neg h,show putN n k u.toNat=UInt8.ofNat (u.toNat / 2 ^ k*2 ^ k+mx k)::tailB (n-mx k) from if_neg h]
  exact y_put_more n k u w h1 h8 hn (by omega)
theorem y_put_no0(n k:Int)(w:World)(h : ¬MayN n k):Calls Tryz.prog 47 #[.int .i64 n,.int .i64 k,.int .u8 0] w fun e w'=>e = .returned (.tuple #[.slice none 0 0,.int .i64 2])∧Below w.heap.size w w':=y_put_no n k 0 w h
theorem y_put_yes0(n k:Nat)(w:World)(h1:1≤k)(h8:k≤8)(hn:n<2147483648) :
  Calls Tryz.prog 47 #[.int .i64 (n:Int),.int .i64 (k:Int),.int .u8 0] w fun e w'=>∃A c,e = .returned (.tuple #[.slice A (numB n k).length c,.int .i64 0])∧HandS w' w.heap.size A (numB n k).length c (putN n k 0)∧Below w.heap.size w w':=y_put_yes n k 0 w h1 h8 hn
end Go.Proofs.YtahiajeggbpogaaGreatDoor
namespace Go.Proofs.YtahiajeggbpogaaGreatDoor.Px
def stepP(o:Option Nat)(x:UInt8×Nat):Option Nat:=
 match o with
 | none=>none
 | some a=>if x.2<35∧a+x.1.toNat % 128*2 ^ x.2<2147483648∧128≤x.1.toNat then some (a+x.1.toNat % 128*2 ^ x.2) else none
def contP(n:Nat)(l:List (UInt8×Nat)):Option Nat:=l.foldl stepP (some n)
end Go.Proofs.YtahiajeggbpogaaGreatDoor.Px
namespace Go.Proofs.YtahiajeggbpogaaGreatDoor
open Go.RowKit Px Go.Shelf
set_option linter.unusedVariables false
set_option linter.unusedSimpArgs false
attribute [local go_sem] Oper.semAt_some
namespace Px
def StB(B1:Nat)(A B:World):Prop:=∃v,B=A.setCell ⟨B1,0,none⟩ v
def KeepZ(p:Nat→Prop)(A B:World):Prop:=KeepC p A B∧A.heap.size≤B.heap.size
def cellInt(w:World)(B1:Nat):Nat:=match w.cell? ⟨B1,0,none⟩ with
 | some (.int _ n)=>n.toNat
 | _=>0
theorem cellInt_of{w:World}{B1:Nat}{k:IntKind}{n:Nat}(h:w.cell? ⟨B1,0,none⟩=some (.int k (n:Int))):cellInt w B1=n:=by unfold cellInt;rw[h];simp
end Px
theorem or128F : ∀z:Fin 256,bits .or .u8 (z.val:Int) 128=((z.val % 128+128:Nat):Int):=by decide +kernel
theorem or128(m:Nat):bits .or .u8 ((m:Int) % 256) 128=((m % 128+128:Nat):Int):=by
 have h:=or128F ⟨m % 256,Nat.mod_lt _ (by decide)⟩
 simp only at h
 rw[show((m % 256:Nat):Int)=(m:Int) % 256 from by omega,show m % 256 % 128=m % 128 from by omega] at h
 exact h
theorem octets1_in(k:Nat)(hk:1≤k)(l Bk Bn b n:Nat)(p:Nat→Prop)(J:List UInt8→World→Prop)(W:World)(hJ:AbidesFrom W.heap.size J)(hSt : ∀(pre:List UInt8) (A B:World),J pre A→StB Bn A B→J pre B)
  (hY : ∀pre (x:UInt8) W1,J pre W1→pre.length<(numB n b).length→YieldAt Fence.wide (k-1) Tryz.prog l #[.int .u8 (x.toNat:Int)] W1 fun e W'=>e = .returned (.bool true)∧J (pre++[x]) W'∧KeepZ p W1 W')
  (hpk:p Bk) (hpn:p Bn) (hne:Bk≠Bn) (hb1:1≤b) (hb8:b≤8) (hn:n<2147483648)
  (hck:W.heap[Bk]? = some (.cells #[.int .i64 (b:Int)] 3)) (hcn:W.heap[Bn]? = some (.cells #[.int .i64 (n:Int)] 3)) (h0:J [] W) :
  CallsIn Fence.wide k Tryz.prog 109 #[.func (.yield l) #[] #[],.pointer (some ⟨Bk,0,none⟩),.pointer (some ⟨Bn,0,none⟩)] W fun e W'=>(∃v,e = .returned v)∧∃ys:List UInt8,ys=numB n b∧J ys W':=by
 have HY:=Lib.hid hY
 have HJ:=Lib.hid hJ
 have HST:=Lib.hid hSt
 have hM1:=mx_pos hb1
 have hM8:=mx_le hb8
 have HF:Hid (∀w,Calls Tryz.prog 94 #[.int .i64 (b:Int)] w fun e w'=>e = .returned (.int .u8 (mx b:Int))∧w=w'):=Lib.hid (fun w=>x_full b w hb1 hb8)
 have HN:Hid (numB n b=if n<mx b then [UInt8.ofNat n] else UInt8.ofNat (mx b)::tailB (n-mx b)):=Lib.hid rfl
 clear hY hJ hSt hb1 hb8
 generalize mx b=M at *
 have ck:=cells1_row hck
 have cn:=cells1_row hcn
 have HCK:=Lib.hid hck
 have HCN:=Lib.hid hcn
 clear hck hcn
 refine callsIn_of_wp Tryz.func109 rfl trivial ?_ rfl
 simp only[Tryz.ntmps109,List.size_toArray,List.length_cons,List.length_nil,Nat.reduceAdd,Nat.reduceSub,Array.replicate_succ,Array.replicate_zero,List.push_toArray,List.append_toArray,List.nil_append,List.cons_append]
 rcases Nat.lt_trichotomy n M with h | h | h
 ·have e0:((UInt8.ofNat n).toNat:Int)=(n:Int):=by simp;omega
  have hN:numB n b=[UInt8.ofNat n]:=by rw[HN.out,if_pos h]
  have HN1:=Lib.hid hN
  obtain⟨fn,tmps,assign,body,hy,hR⟩:=HY.out [] (UInt8.ofNat n) W h0 (by rw[HN1.out];simp)
  rw[e0] at hy
  have HR:=Lib.hid hR
  clear hR hN e0
  gi_wp2_with (first
   | go_skip
   | (refine⟨trivial,?_⟩;gi_at_call 94;(with_reducible refine(callsIn_wide.2 (HF.out W)).mono ?_);rintro e w1 ⟨rfl,rfl⟩))
  refine HR.out.mono ?_
  rintro e w2 ⟨rfl,hJ2,hk2⟩
  have cn2:=cells1_row (hk2.1 Bn _ hpn HCN.out rfl)
  have HJ2:=Lib.hid hJ2
  have HK2:=Lib.hid hk2
  clear hJ2 hk2
  gi_wp2
  refine bodyPost_ret (results_none rfl _ _ _) rfl ⟨⟨_,rfl⟩,_,HN1.out.symm,HJ2.out⟩
 ·subst h
  have e0:((UInt8.ofNat n).toNat:Int)=(n:Int):=by simp;omega
  have hN:numB n b=UInt8.ofNat n::tailB (n-n):=by rw[HN.out,if_neg (by omega)]
  have HN1:=Lib.hid hN
  obtain⟨fn,tmps,assign,body,hy,hR⟩:=HY.out [] (UInt8.ofNat n) W h0 (by rw[HN1.out];simp)
  rw[e0] at hy
  have HR:=Lib.hid hR
  clear hR hN e0
  gi_wp2_with (first
   | go_skip
   | (refine⟨trivial,?_⟩;gi_at_call 94;(with_reducible refine(callsIn_wide.2 (HF.out W)).mono ?_);rintro e w1 ⟨rfl,rfl⟩))
  refine HR.out.mono ?_
  rintro e w2 ⟨rfl,hJ2,hk2⟩
  have HCN2:=Lib.hid (hk2.1 Bn _ hpn HCN.out rfl)
  have cn2:=cells1_row HCN2.out
  have fn2:=frozen_of_row w2 Bn 0 _ _ HCN2.out
  have HJ2:=Lib.hid hJ2
  clear hJ2 hk2 ck cn
  gi_wp2
  gi_loopw [24] (fun _ wr=>∃(m:Nat) (ys:List UInt8),wr.heap[Bn]? = some (.cells #[.int .i64 (m:Int)] 3)∧m<2147483648∧ys++tailB m=numB n b∧J ys wr) (fun _ wr=>cellInt wr Bn)
  case atStart=>
   refine⟨n-n,[UInt8.ofNat n],?_,by omega,HN1.out.symm,HST.out _ _ _ HJ2.out ⟨_,rfl⟩⟩
   refine(Go.heap_setCell_same w2 Bn 0 _ _ _ HCN2.out).trans ?_
   rw[show((n-n:Nat):Int)=(n:Int)-(n:Int) from by omega]
   first | rfl | simp
  case round=>
   obtain⟨m,ys,hcell,hm,hys,hJr⟩:=hrel
   have HCR:=Lib.hid hcell
   have cr:=cells1_row hcell
   have fr:=frozen_of_row wr Bn 0 _ _ hcell
   have HYS:=Lib.hid hys
   have HJR:=Lib.hid hJr
   clear hcell hys hJr cn2 fn2
   by_cases h128:128≤m
   ·have ht:=tailB_ge h128
    have hl:ys.length<(numB n b).length:=by rw[←HYS.out,List.length_append];have:=tailB_pos m;omega
    have e1:((UInt8.ofNat (m % 128+128)).toNat:Int)=((m % 128+128:Nat):Int):=by simp;omega
    obtain⟨fn,tmps,assign,body,hy,hR⟩:=HY.out ys (UInt8.ofNat (m % 128+128)) wr HJR.out hl
    rw[e1,←or128] at hy
    have HR:=Lib.hid hR
    have HT:=Lib.hid ht
    clear hR hl e1 ht
    gi_wp2
    refine HR.out.mono ?_
    rintro e w3 ⟨rfl,hJ3,hk3⟩
    have HC3:=Lib.hid (hk3.1 Bn _ hpn HCR.out rfl)
    have cn3:=cells1_row HC3.out
    have fn3:=frozen_of_row w3 Bn 0 _ _ HC3.out
    have HJ3:=Lib.hid hJ3
    clear hJ3 hk3 cr fr
    gi_wp2
    go_roundw
    case rel=>
     refine⟨m / 128,ys++[UInt8.ofNat (m % 128+128)],(Go.heap_setCell_same w3 Bn 0 _ _ _ HC3.out).trans ?_,by omega,?_,HST.out _ _ _ HJ3.out ⟨_,rfl⟩⟩
     ·rw[show((m / 128:Nat):Int)=(m:Int) / 128 from by omega]
      rfl
     ·rw[List.append_assoc,List.singleton_append,←HT.out];exact HYS.out
    case measure=>
     rw[cellInt_of (k:=.i64) (n:=m / 128) ((World.cell?_setCell_same' _ _ _ (by rw[cn3];rfl)).trans (by rw[show((m / 128:Nat):Int)=(m:Int) / 128 from by omega])),cellInt_of (cells1_row HCR.out)]
     omega
   ·have ht:=tailB_lt (show m<128 by omega)
    have hl:ys.length<(numB n b).length:=by rw[←HYS.out,List.length_append];have:=tailB_pos m;omega
    have e1:((UInt8.ofNat m).toNat:Int)=(m:Int):=by simp;omega
    obtain⟨fn,tmps,assign,body,hy,hR⟩:=HY.out ys (UInt8.ofNat m) wr HJR.out hl
    rw[e1] at hy
    have HR:=Lib.hid hR
    have HT:=Lib.hid ht
    clear hR hl e1 ht
    gi_wp2
    refine HR.out.mono ?_
    rintro e w3 ⟨rfl,hJ3,hk3⟩
    have HJ3:=Lib.hid hJ3
    clear hJ3 hk3
    gi_wp2
    go_end0
    exact⟨⟨_,rfl⟩,_,by rw[←HYS.out,HT.out],HJ3.out⟩
 ·have e0:((UInt8.ofNat M).toNat:Int)=(M:Int):=by simp;omega
  have hN:numB n b=UInt8.ofNat M::tailB (n-M):=by rw[HN.out,if_neg (by omega)]
  have HN1:=Lib.hid hN
  obtain⟨fn,tmps,assign,body,hy,hR⟩:=HY.out [] (UInt8.ofNat M) W h0 (by rw[HN1.out];simp)
  rw[e0] at hy
  have HR:=Lib.hid hR
  have d1:(M:Int)<(n:Int):=by omega
  have d2:decide ((n:Int)<(M:Int))=false:=decide_eq_false (by omega)
  have d3:decide (n<M)=false:=decide_eq_false (by omega)
  clear hR hN e0
  gi_wp2_with (first
   | go_skip
   | (refine⟨trivial,?_⟩;gi_at_call 94;(with_reducible refine(callsIn_wide.2 (HF.out W)).mono ?_);rintro e w1 ⟨rfl,rfl⟩))
  refine HR.out.mono ?_
  rintro e w2 ⟨rfl,hJ2,hk2⟩
  have HCN2:=Lib.hid (hk2.1 Bn _ hpn HCN.out rfl)
  have cn2:=cells1_row HCN2.out
  have fn2:=frozen_of_row w2 Bn 0 _ _ HCN2.out
  have HJ2:=Lib.hid hJ2
  clear hJ2 hk2 ck cn
  gi_wp2
  gi_loopw [24] (fun _ wr=>∃(m:Nat) (ys:List UInt8),wr.heap[Bn]? = some (.cells #[.int .i64 (m:Int)] 3)∧m<2147483648∧ys++tailB m=numB n b∧J ys wr) (fun _ wr=>cellInt wr Bn)
  case atStart=>
   refine⟨n-M,[UInt8.ofNat M],?_,by omega,HN1.out.symm,HST.out _ _ _ HJ2.out ⟨_,rfl⟩⟩
   refine(Go.heap_setCell_same w2 Bn 0 _ _ _ HCN2.out).trans ?_
   rw[show((n-M:Nat):Int)=(n:Int)-(M:Int) from by omega]
   first | rfl | simp
  case round=>
   obtain⟨m,ys,hcell,hm,hys,hJr⟩:=hrel
   have HCR:=Lib.hid hcell
   have cr:=cells1_row hcell
   have fr:=frozen_of_row wr Bn 0 _ _ hcell
   have HYS:=Lib.hid hys
   have HJR:=Lib.hid hJr
   clear hcell hys hJr cn2 fn2
   by_cases h128:128≤m
   ·have ht:=tailB_ge h128
    have hl:ys.length<(numB n b).length:=by rw[←HYS.out,List.length_append];have:=tailB_pos m;omega
    have e1:((UInt8.ofNat (m % 128+128)).toNat:Int)=((m % 128+128:Nat):Int):=by simp;omega
    obtain⟨fn,tmps,assign,body,hy,hR⟩:=HY.out ys (UInt8.ofNat (m % 128+128)) wr HJR.out hl
    rw[e1,←or128] at hy
    have HR:=Lib.hid hR
    have HT:=Lib.hid ht
    clear hR hl e1 ht
    gi_wp2
    refine HR.out.mono ?_
    rintro e w3 ⟨rfl,hJ3,hk3⟩
    have HC3:=Lib.hid (hk3.1 Bn _ hpn HCR.out rfl)
    have cn3:=cells1_row HC3.out
    have fn3:=frozen_of_row w3 Bn 0 _ _ HC3.out
    have HJ3:=Lib.hid hJ3
    clear hJ3 hk3 cr fr
    gi_wp2
    go_roundw
    case rel=>
     refine⟨m / 128,ys++[UInt8.ofNat (m % 128+128)],(Go.heap_setCell_same w3 Bn 0 _ _ _ HC3.out).trans ?_,by omega,?_,HST.out _ _ _ HJ3.out ⟨_,rfl⟩⟩
     ·rw[show((m / 128:Nat):Int)=(m:Int) / 128 from by omega]
      rfl
     ·rw[List.append_assoc,List.singleton_append,←HT.out];exact HYS.out
    case measure=>
     rw[cellInt_of (k:=.i64) (n:=m / 128) ((World.cell?_setCell_same' _ _ _ (by rw[cn3];rfl)).trans (by rw[show((m / 128:Nat):Int)=(m:Int) / 128 from by omega])),cellInt_of (cells1_row HCR.out)]
     omega
   ·have ht:=tailB_lt (show m<128 by omega)
    have hl:ys.length<(numB n b).length:=by rw[←HYS.out,List.length_append];have:=tailB_pos m;omega
    have e1:((UInt8.ofNat m).toNat:Int)=(m:Int):=by simp;omega
    obtain⟨fn,tmps,assign,body,hy,hR⟩:=HY.out ys (UInt8.ofNat m) wr HJR.out hl
    rw[e1] at hy
    have HR:=Lib.hid hR
    have HT:=Lib.hid ht
    clear hR hl e1 ht
    gi_wp2
    refine HR.out.mono ?_
    rintro e w3 ⟨rfl,hJ3,hk3⟩
    have HJ3:=Lib.hid hJ3
    clear hJ3 hk3
    gi_wp2
    go_end0
    exact⟨⟨_,rfl⟩,_,by rw[←HYS.out,HT.out],HJ3.out⟩
theorem octets_stops(k:Nat)(hk:1≤k)(Bk Bn b n:Nat)(p:Nat→Prop)(w:World)(hpk:p Bk)(hpn:p Bn)(hne:Bk≠Bn)(hb1:1≤b)(hb8:b≤8)(hn:n<2147483648)
  (hck:w.heap[Bk]? = some (.cells #[.int .i64 (b:Int)] 3)) (hcn:w.heap[Bn]? = some (.cells #[.int .i64 (n:Int)] 3)) :
  SeqS Fence.wide k Tryz.prog 109 #[.pointer (some ⟨Bk,0,none⟩),.pointer (some ⟨Bn,0,none⟩)] (fun x:UInt8=>#[.int .u8 (x.toNat:Int)]) (KeepZ p) (StB Bn) (fun _ _ _=>True) (fun ys=>ys=numB n b) (numB n b).length w:=fun l J W hW hJ hSt hY h0=>
 octets1_in k hk l Bk Bn b n p J W hJ hSt (fun pre x W1 hj hl=>hY pre x W1 hj trivial hl) hpk hpn hne hb1 hb8 hn ((hW.block Bk (Array.getElem?_eq_some_iff.1 hck).1).trans hck) ((hW.block Bn (Array.getElem?_eq_some_iff.1 hcn).1).trans hcn) h0
end Go.Proofs.YtahiajeggbpogaaGreatDoor
namespace Go.Proofs.YtahiajeggbpogaaGreatDoor
open Go.RowKit Px Go.Shelf
set_option linter.unusedVariables false
set_option linter.unusedSimpArgs false
attribute [local go_sem] Oper.semAt_some
namespace Px
structure SizeI (w:World) (g:Nat) (pre:List UInt8) (W:World):Prop where
 row:W.heap[g]? = some (.cells #[.int .i64 (pre.length:Int)] 3)
 below:Below w.heap.size w W
theorem sizeI_own{w:World}{g B:Nat}(hB:w.heap.size≤B):OwnFrom B (SizeI w g):=by
 intro s W W' row hs hg hr
 have hr' : ∀k,row=some k→∃o:Obj,W.heap[k]? = some o∧o.isCells=false:=fun k e=>(hr k e).2
 exact⟨heap_kept hg hr' hs.row,hs.below.grown hg hs.below.size (fun k e=>Nat.le_trans hB (hr k e).1)⟩
theorem sizeI_st{w:World}{g Bn:Nat}(hB:w.heap.size≤Bn)(hne:g≠Bn)(pre:List UInt8)(A B:World)(h:SizeI w g pre A)(hs:StB Bn A B):SizeI w g pre B:=by
 obtain⟨v,rfl⟩:=hs
 exact⟨(Below.heap_setCell _ _ _ _ (by simpa using hne)).trans h.row,h.below.setCell (p:=⟨Bn,0,none⟩) hB _⟩
theorem keepZ_trans{p:Nat→Prop}{A B C:World}(h:KeepZ p A B)(k:KeepZ p B C):KeepZ p A C:=⟨h.1.trans k.1,Nat.le_trans h.2 k.2⟩
theorem keepZ_put{p:Nat→Prop}(W:World)(l:Nat)(o o':Obj)(h:W.heap[l]? = some o)(hc:o.isCells=false):KeepZ p W (W.putObj l o'):=⟨KeepC.put W l o o' h hc,(grownBy_putObj' W l o').size⟩
theorem stB_keep{B1:Nat}(A B:World)(l:Nat)(o:Obj)(hs:StB B1 A B)(h:A.heap[l]? = some o)(hc:o.isCells=false):B.heap[l]? = some o:=by
 obtain⟨v,rfl⟩:=hs
 by_cases e:l=B1
 ·subst e
  simp only[World.setCell,Array.getElem?_modify,h]
  cases o<;>simp_all [Obj.isCells]
 ·exact(Below.heap_setCell _ _ _ _ (by simpa using e)).trans h
theorem size_round{w W:World}{g R:Nat}{pre:List UInt8}{x:UInt8}{a:Act}(p:Nat→Prop)(hp : ¬p g)(hI:SizeI w g pre W)(hg:w.heap.size≤g) :
  ownPostG R (KeepZ p) (SizeI w g) (fun _ _ _=>False) (pre++[x]) W Exit.normal a (W.setCell ⟨g,0,none⟩ (.int .i64 ((pre.length:Int)+1))):=by
 refine⟨(KeepsOthers.setCell _ _ _).from _,⟨fun j o hj ho _=>?_,by simp[World.setCell]⟩,⟨?_,hI.below.setCell (p:=⟨g,0,none⟩) hg _⟩⟩
 ·exact(Below.heap_setCell _ _ _ _ (by simp only[ne_eq];rintro rfl;exact hp hj)).trans ho
 ·refine(Go.heap_setCell_same W g 0 _ _ _ hI.row).trans ?_
  simp
theorem bs_other{W W':World}{row:Option Nat}{B n:Nat}{A:Option Addr}{xs:List UInt8}(hg:W.grownBy W' row)(hr : ∀r,row=some r→∃o:Obj,W.heap[r]? = some o∧o.isCells=false)(h:Bs W B A n xs):Bs W' B A n xs:=
 ⟨h.1,fun hn=>by
  obtain⟨b,o,e,hb,hc⟩:=h.2 hn
  exact⟨b,o,e,hb,fun j hj=>cell_kept (hc j hj) hg hr⟩⟩
theorem deferred_other{W:World}{D:Nat}(h:W.heap[D]? = some (.deferred (some []))) : ∀r,some D=some r→∃o:Obj,W.heap[r]? = some o∧o.isCells=false:=fun r e=>by cases e;exact⟨_,h,rfl⟩
theorem handS_putD{W:World}{B D n c:Nat}{A:Option Addr}{xs:List UInt8}(h:HandS W B A n c xs)(hD:W.heap[D]? = some (.deferred (some []))):HandS (W.putObj D (.deferred none)) B A n c xs:=
 ⟨(bs_other (grownBy_putObj' W D _) (deferred_other hD) h.1).more (grownBy_putObj' W D _).size,h.2⟩
end Px
end Go.Proofs.YtahiajeggbpogaaGreatDoor
namespace Go.Proofs.YtahiajeggbpogaaGreatDoor
open Go.RowKit Px Go.Shelf
set_option linter.unusedVariables false
set_option linter.unusedSimpArgs false
attribute [local go_sem] Oper.semAt_some
namespace Px
theorem u8_or_nat(a b:Nat)(ha:a<256)(hb:b<256):bits .or .u8 (a:Int) (b:Int)=((a ||| b:Nat):Int):=by
 have h1:(BitVec.ofInt 8 (a:Int)).toNat=a:=by
  rw[BitVec.ofInt_natCast,BitVec.toNat_ofNat];exact Nat.mod_eq_of_lt (by omega)
 have h2:(BitVec.ofInt 8 (b:Int)).toNat=b:=by
  rw[BitVec.ofInt_natCast,BitVec.toNat_ofNat];exact Nat.mod_eq_of_lt (by omega)
 have hx:a ||| b<2 ^ 8:=Nat.or_lt_two_pow ha hb
 show IntKind.u8.wrap ((BitVec.ofInt 8 (a:Int) ||| BitVec.ofInt 8 (b:Int)).toNat:Int)=_
 rw[BitVec.toNat_or,h1,h2]
 exact IntWalk.u8_in _ (by omega)
theorem andNotF : ∀k:Fin 9,∀u:Fin 256,bits .andNot .u8 (u.val:Int) (((2 ^ k.val-1:Nat)):Int)=((u.val / 2 ^ k.val*2 ^ k.val:Nat):Int):=by decide +kernel
theorem andNot_u8(u k:Nat)(hu:u<256)(hk:k≤8):bits .andNot .u8 (u:Int) (mx k:Int)=((u / 2 ^ k*2 ^ k:Nat):Int):=andNotF ⟨k,by omega⟩ ⟨u,hu⟩
theorem put_first(n k u:Nat) : ∃m rest,m<2 ^ k∧numB n k=UInt8.ofNat m::rest∧putN n k u=UInt8.ofNat (u / 2 ^ k*2 ^ k+m)::rest:=by
 have h0:=mx_succ k
 unfold numB putN
 by_cases h:n<mx k
 ·rw[if_pos h,if_pos h];exact⟨n,[],by omega,rfl,rfl⟩
 ·rw[if_neg h,if_neg h];exact⟨mx k,_,by omega,rfl,rfl⟩
theorem or_first(m u k:Nat)(hu:u<256)(hk:k≤8)(hm:m<2 ^ k):bits .or .u8 ((UInt8.ofNat m).toNat:Int) (bits .andNot .u8 (u:Int) (mx k:Int))=((UInt8.ofNat (u / 2 ^ k*2 ^ k+m)).toNat:Int):=by
 have h8:2 ^ k≤2 ^ 8:=Nat.pow_le_pow_right (by decide) hk
 have hle:u / 2 ^ k*2 ^ k≤u:=Nat.div_mul_le_self u (2 ^ k)
 have em:(UInt8.ofNat m).toNat=m:=by simp;omega
 rw[andNot_u8 u k hu hk,byte_lo u k m hk hu hm,em,u8_or_nat m _ (by omega) (by omega),Nat.or_comm,←Nat.shiftLeft_eq,Nat.shiftLeft_add_eq_or_of_lt hm]
end Px
theorem Px.wp_then_only{P:Program}{c:Code}{K:Act→World→Prop}{Q:Exit→Act→World→Prop}{a:Act}{w:World}(h:c.wp P (Exit.then K fun _ _ _=>False) a w):c.wp P (Exit.then K Q) a w:=
 Code.wp_mono (fun e a w h=>by cases e<;>first | exact h | exact h.elim) h
theorem x_put_no(n k:Int)(u:UInt8)(w:World)(h : ¬MayN n k) :
  Calls Tryz.prog 70 #[.int .i64 n,.int .i64 k,.int .u8 (u.toNat:Int)] w fun e w'=>e = .returned (.tuple #[.slice none 0 0,.int .i64 2])∧Below w.heap.size w w':=by
 have hB:Hid (∀v t,Below w.heap.size w (w.alloc (.cells #[v] t))):=Lib.hid fun v t=>(Below.refl _ w).alloc (Nat.le_refl _) _
 have hd:decide (MayN n k)=false:=decide_eq_false h
 clear h
 go_enter Tryz.func70,Tryz.ntmps70
 go_wp2
 refine wp_scope_forward 0 rfl ?_
 go_wp2_with (go_at_call 92;(with_reducible refine(x_fits _ _ _).mono ?_);rintro e w' ⟨rfl,rfl⟩;rw[hd])
 go_step3
 refine⟨rfl,?_⟩
 go_wp2
 rw[jump_ret]
 go_ret2
 exact⟨rfl,hB.out _ _⟩
theorem x_put_yes(n k:Nat)(u:UInt8)(w:World)(h1:1≤k)(h8:k≤8)(hn:n<2147483648) :
  Calls Tryz.prog 70 #[.int .i64 (n:Int),.int .i64 (k:Int),.int .u8 (u.toNat:Int)] w fun e w'=>∃A c,e = .returned (.tuple #[.slice A (numB n k).length c,.int .i64 0])∧HandS w' w.heap.size A (numB n k).length c (putN n k u.toNat)∧Below w.heap.size w w':=by
 have hd:decide (MayN (n:Int) (k:Int))=true:=decide_eq_true ⟨⟨by omega,by omega⟩,by omega,by omega⟩
 refine(callsIn_wide (n:=6)).1 (callsIn_of_wp_marks Tryz.func70 rfl trivial ?_ rfl)
 refine wpIn_wide.2 ?_
 simp only[Tryz.ntmps70,List.size_toArray,List.length_cons,List.length_nil,Nat.reduceAdd,Nat.reduceSub,Array.replicate_succ,Array.replicate_zero,List.push_toArray,List.append_toArray,List.nil_append,List.cons_append]
 go_wp2
 refine wp_scope_forward 0 rfl ?_
 go_wp2_with (first | (go_at_call 92;(with_reducible refine(x_fits _ _ _).mono ?_);rintro e w' ⟨rfl,rfl⟩;rw[hd]) | (go_at_call 93;refine(x_octets _ _ _).mono ?_;rintro e w' ⟨rfl,rfl⟩))
 have hb0:Below w.heap.size w (((w.alloc (.cells #[.slice none 0 0] 25)).alloc (.cells #[.int .i64 (n:Int)] 3)).alloc (.cells #[.int .i64 (k:Int)] 3)):=(((Below.refl _ w).alloc (Nat.le_refl _) _).alloc (by simp) _).alloc (by simp only[World.size_alloc];omega) _
 have hr0:(((w.alloc (.cells #[.slice none 0 0] 25)).alloc (.cells #[.int .i64 (n:Int)] 3)).alloc (.cells #[.int .i64 (k:Int)] 3)).heap[w.heap.size]? = some (.cells #[.slice none 0 0] 25):=
  (Below.heap_alloc _ _ _ (by simp;omega)).trans ((Below.heap_alloc _ _ _ (by simp)).trans (World.alloc_heap_new _ _))
 have hr1:(((w.alloc (.cells #[.slice none 0 0] 25)).alloc (.cells #[.int .i64 (n:Int)] 3)).alloc (.cells #[.int .i64 (k:Int)] 3)).heap[w.heap.size+1]? = some (.cells #[.int .i64 (n:Int)] 3):=
  (Below.heap_alloc _ _ _ (by simp)).trans (by have h:=World.alloc_heap_new (w.alloc (.cells #[.slice none 0 0] 25)) (.cells #[.int .i64 (n:Int)] 3);rwa [World.size_alloc] at h)
 have hr2:(((w.alloc (.cells #[.slice none 0 0] 25)).alloc (.cells #[.int .i64 (n:Int)] 3)).alloc (.cells #[.int .i64 (k:Int)] 3)).heap[w.heap.size+1+1]? = some (.cells #[.int .i64 (k:Int)] 3):=by
  have h:=World.alloc_heap_new ((w.alloc (.cells #[.slice none 0 0] 25)).alloc (.cells #[.int .i64 (n:Int)] 3)) (.cells #[.int .i64 (k:Int)] 3);rwa [World.size_alloc,World.size_alloc] at h
 have hz:(((w.alloc (.cells #[.slice none 0 0] 25)).alloc (.cells #[.int .i64 (n:Int)] 3)).alloc (.cells #[.int .i64 (k:Int)] 3)).heap.size=w.heap.size+3:=by simp
 generalize ((w.alloc (.cells #[.slice none 0 0] 25)).alloc (.cells #[.int .i64 (n:Int)] 3)).alloc (.cells #[.int .i64 (k:Int)] 3)=W0 at *
 have hlen:=numB_len (n:=n) (k:=k) (by omega)
 have hul:=u.toNat_lt
 obtain⟨i0,hi,hz0,hz1,hz2⟩:=info_parts info_u8
 have hinf:=Lib.hid (And.intro hi (And.intro hz0 (And.intro hz1 hz2)))
 clear hi hz0 hz1 hz2
 refine(wpIn_wide (n:=6)).1 ?_
 refine wpIn_rangeFunc_state rfl (by omega) (gf:=109) (lb:=#[.pointer (some ⟨w.heap.size+1+1,0,none⟩),.pointer (some ⟨w.heap.size+1,0,none⟩)]) rfl trivial (enters_of Tryz.func109 (by kernel_rfl) rfl)
  (octets_stops 5 (by omega) (w.heap.size+1+1) (w.heap.size+1) k n (fun j=>j=w.heap.size+1+1∨j=w.heap.size+1) W0 (.inl rfl) (.inr rfl) (by omega) h1 h8 hn hr2 hr1)
  (fun h k=>keepZ_trans h k) (fun W l o o' _ h hc _=>keepZ_put W l o o' h hc) (fun _=>rfl) (fun A B l o hs h hc=>stB_keep A B l o hs h hc)
  (GatherB w w.heap.size W0.heap.size 25 5) (gatherB_own (by omega)) (fun pre A B h hs=>by obtain⟨v,rfl⟩:=hs;exact gatherB_set (by omega) (by omega) (by omega) pre A v h) ⟨⟨_,hr0,OwnB.nil_ _ _ _⟩,hb0,Nat.le_refl _⟩
  (fun pre x a' W=>a'={ tmps:=#[.int .i64 (n:Int),.int .i64 (k:Int),.int .u8 (u.toNat:Int),undef,undef,undef,.slice none 0 0,.int .i64 0,.pointer (some ⟨w.heap.size,0,none⟩),.int .u8 (x.toNat:Int),.int .i64 (n:Int),.int .i64 (k:Int),.bool true,.bool false,.int .i64 (n:Int),.int .i64 (k:Int),.func (.func 109) #[] #[.pointer (some ⟨w.heap.size+1+1,0,none⟩),.pointer (some ⟨w.heap.size+1,0,none⟩)],.int .u8 (x.toNat:Int),undef,undef,undef,undef,undef,undef,undef,undef,undef,undef,undef,undef,undef,undef],defers:=[] }) (fun pre x a' _ _ _ _ h _ _=>h)
  ?assign ?body ?done
 case assign=>
  intro l pre x W K hI hV hK
  have HK:=Lib.hid hK
  have HI:=Lib.hid hI
  clear hK hI hV
  gi_wp2
  exact HK.out _ _ (KeepsFrom.refl _ _) ⟨KeepC.refl _ _,Nat.le_refl _⟩ HI.out rfl
 case body=>
  rintro l pre x a' W hl0 hI rfl hlen2
  obtain⟨⟨v,hrow,hown⟩,hbel,hsz⟩:=hI
  have c0:=cells1_row hrow
  have HROW:=Lib.hid hrow
  have HOWN:=Lib.hid hown
  have HOWN2:=Lib.hid (hown.alloc (.cells #[.int .u8 (x.toNat:Int)] 5))
  have hlW : ∀j u,([x].map bv)[j]? = some u→(W.alloc (.cells #[.int .u8 (x.toNat:Int)] 5)).cell? ((⟨W.heap.size,0,none⟩:Addr).add j)=some u:=by
   intro j y hy
   have hj:j=0:=by
    have:=(List.getElem?_eq_some_iff.1 hy).1
    simp at this
    omega
   subst hj
   simp only[List.map_cons,List.map_nil,List.getElem?_cons_zero,Option.some.injEq] at hy
   subst hy
   simp[go_sem,bv]
  have HLW:=Lib.hid hlW
  have HBEL:=Lib.hid hbel
  clear hrow hown hlW hbel hr0 hr1 hr2 hb0
  gi_wp2_with (gi_at_builtin;refine wpListIn_append_full _ rfl (.tmp 18) (.tmp 20) 25 rfl W0.heap.size 5 i0 Tryz.underlying25 hinf.out.1 hinf.out.2.1 hinf.out.2.2.1 hinf.out.2.2.2 v pre rfl HOWN2.out ⟨W.heap.size,0,none⟩ 1 1 [x] rfl HLW.out rfl (by omega) (by simp;omega) ?_;intro v4 w4 hown4 hb4 hg4 hv4;obtain⟨A6,c6,rfl,hh6⟩:=hown4.handS (n:=pre.length+1) (by simp);have HO4:=Lib.hid hown4;have HB4:=Lib.hid hb4;have HG4:=Lib.hid hg4;have hr4:=(hb4.block w.heap.size (by omega)).trans ((Below.heap_alloc _ _ _ (by omega)).trans HROW.out);have c4:=cells1_row hr4;have f4:=frozen_of_row w4 _ 0 _ _ hr4;clear hown4 hb4 hg4 hv4 hr4 hh6)
  exact gatherB_round (KeepZ _) (fun j=>j=w.heap.size+1+1∨j=w.heap.size+1) (fun A B h h2=>⟨h,h2⟩) (Nat.le_refl _) (by omega) hsz (fun j hj=>by omega) HROW.out HOWN.out HBEL.out HB4.out HG4.out HO4.out
 case done=>
  rintro D ys W hD rfl hI hK
  obtain⟨⟨v,hrow,hown⟩,hbel,hsz⟩:=hI
  obtain⟨m,rest,hm,hnum,hput⟩:=put_first n k u.toNat
  have HOR:=Lib.hid (or_first m u.toNat k hul h8 hm)
  generalize UInt8.ofNat m=x0 at *
  rw[hnum] at hown
  obtain⟨A,c,rfl,hAc,_⟩:=hown.form
  obtain⟨g,rfl,hlr,hrc,hBg,hgl,hfz,hcg,hset⟩:=hown.first
  have c0:=cells1_row hrow
  have HCF:=Lib.hid (show W.cell? ⟨g,0,none⟩=some (.int .u8 (x0.toNat:Int)) from hcg)
  have c1:=HCF.out
  have HSET:=Lib.hid hset
  have HBEL:=Lib.hid hbel
  have HNUM:=Lib.hid hnum
  have HPUT:=Lib.hid hput
  have hgD:D≠g:=fun e=>by
   obtain⟨o1,ho1,hc1⟩:=cells_of_cell hcg
   subst e
   have:=ho1.symm.trans hK
   cases this
   cases hc1
  have hD2:((W.setCell ⟨g,0,none⟩ (.int .u8 ((UInt8.ofNat (u.toNat / 2 ^ k*2 ^ k+m)).toNat:Int))).drew).heap[D]? = some (.deferred (some [])):=(Below.heap_setCell W _ _ _ (by simpa using hgD)).trans hK
  have HD2:=Lib.hid hD2
  have hbs:Bs ((W.setCell ⟨g,0,none⟩ (.int .u8 ((UInt8.ofNat (u.toNat / 2 ^ k*2 ^ k+m)).toNat:Int))).drew) ((W.setCell ⟨g,0,none⟩ (.int .u8 ((UInt8.ofNat (u.toNat / 2 ^ k*2 ^ k+m)).toNat:Int))).drew).heap.size (some ⟨g,0,none⟩) (numB n k).length (putN n k u.toNat):=by
   rw[hnum,hput]
   have h:=(hset W (UInt8.ofNat (u.toNat / 2 ^ k*2 ^ k+m)) rfl).more (B':=(W.setCell ⟨g,0,none⟩ (.int .u8 ((UInt8.ofNat (u.toNat / 2 ^ k*2 ^ k+m)).toNat:Int))).heap.size) (by simp[World.setCell])
   exact h
  have HFIN:=Lib.hid (handS_putD (B:=w.heap.size) (c:=c) ⟨hbs,fun _ b o e=>(by cases e;omega),by rw[hnum];simpa using hrc,fun e=>by cases e⟩ hD2)
  have HBF:=Lib.hid (((hbel.setCell (p:=⟨g,0,none⟩) (by simp only;omega) (.int .u8 ((UInt8.ofNat (u.toNat / 2 ^ k*2 ^ k+m)).toNat:Int))).drew).trans (belowK_b (w:=w) (Nat.le_refl _) _ D _ (.deferred none) (by omega) hD2 rfl rfl))
  clear hr0 hr1 hr2 hb0 hset hbel hown hrow hcg hnum hput hgD hD2 hbs
  go_wp2
  refine wp_then_only ?_
  go_region_with (go_at_call 94;(with_reducible refine(x_full k _ h1 h8).mono ?_);rintro e w' ⟨rfl,rfl⟩)
  all_goals
   rw[HOR.out]
   go_wp2
   rw[jump_ret]
   exact⟨by simp,.inl ⟨_,_,rfl,run_takeDeferred HD2.out,⟨_,results_tmp2 rfl _ _ _,some ⟨g,0,none⟩,c,by rw[HNUM.out];rfl,HFIN.out,HBF.out⟩⟩⟩
end Go.Proofs.YtahiajeggbpogaaGreatDoor
namespace Go.Proofs.YtahiajeggbpogaaGreatDoor
open Go.RowKit Px Go.Shelf
set_option linter.unusedVariables false
set_option linter.unusedSimpArgs false
attribute [local go_sem] Oper.semAt_some
end Go.Proofs.YtahiajeggbpogaaGreatDoor
namespace Go.Proofs.YtahiajeggbpogaaGreatDoor
open Go.RowKit Px Go.Shelf
set_option linter.unusedVariables false
set_option linter.unusedSimpArgs false
attribute [local go_sem] Oper.semAt_some
namespace Px
def takeR(xs:List UInt8)(k:Nat):List UInt8:=if (takeN xs k).1=0 then xs.drop (takeN xs k).2.2 else []
end Px
end Go.Proofs.YtahiajeggbpogaaGreatDoor
namespace Go.Proofs.YtahiajeggbpogaaGreatDoor
open Go.RowKit Px Go.Shelf
set_option linter.unusedVariables false
set_option linter.unusedSimpArgs false
attribute [local go_sem] Oper.semAt_some
namespace Px
structure TakeI (w:World) (M:Nat) (pre:List (UInt8×Nat)) (W:World):Prop where
 acc : ∃a,contP M pre=some a∧W.heap[w.heap.size]? = some (.cells #[.int .i64 (a:Int)] 3)
 err:W.heap[w.heap.size+1]? = some (.cells #[.int .i64 0] 32)
 used:W.heap[w.heap.size+1+1]? = some (.cells #[.int .i64 ((pre.length:Int)+1)] 3)
 below:Below w.heap.size w W
structure TakeX (w : World) (M : Nat) (c : Code) (pre : List (UInt8 × Nat)) (W : World) : Prop where
  how : ∃ pre' x a, pre = pre' ++ [x] ∧ contP M pre' = some a ∧
    ((c = .goto 0 ∧ (x.2 < 35 → 2147483648 ≤ a + x.1.toNat % 128 * 2 ^ x.2) ∧ (∃ v : Int, W.heap[w.heap.size]? = some (.cells #[.int .i64 v] 3)) ∧ W.heap[w.heap.size + 1]? = some (.cells #[.int .i64 60] 32)) ∨
     (c = .goto 1 ∧ x.2 < 35 ∧ a + x.1.toNat % 128 * 2 ^ x.2 < 2147483648 ∧ x.1.toNat < 128 ∧ W.heap[w.heap.size]? = some (.cells #[.int .i64 ((a + x.1.toNat % 128 * 2 ^ x.2 : Nat) : Int)] 3) ∧ W.heap[w.heap.size + 1]? = some (.cells #[.int .i64 0] 32) ∧ W.heap[w.heap.size + 1 + 1]? = some (.cells #[.int .i64 ((pre.length : Int) + 1)] 3)))
  below : Below w.heap.size w W
section
variable {w W W2:World}{M a R:Nat}{pre:List (UInt8×Nat)}{z:UInt8×Nat}{V:Int}{act:Act}(hR:w.heap.size+3≤R)
 (hacc:contP M pre=some a) (hkeep : ∀k,k≠w.heap.size→k≠w.heap.size+1+1→W2.heap[k]? = W.heap[k]?) (hwz:W2.heap.size=W.heap.size)
 (hr0:W2.heap[w.heap.size]? = some (.cells #[.int .i64 V] 3)) (hr1:W2.heap[w.heap.size+1]? = some (.cells #[.int .i64 0] 32)) (hr2:W2.heap[w.heap.size+1+1]? = some (.cells #[.int .i64 ((pre.length:Int)+1+1)] 3)) (hb:Below w.heap.size w W2)
include hR hacc hkeep hwz hr0 hr1 hr2 hb
omit hr2 in
end
end Px
end Go.Proofs.YtahiajeggbpogaaGreatDoor
namespace Go.Proofs.YtahiajeggbpogaaGreatDoor
open Go.RowKit Px
set_option linter.unusedVariables false
set_option linter.unusedSimpArgs false
theorem y_take_no(A:Option Addr)(n c:Nat)(k:Int)(w:World)(h : ¬(1≤k∧k≤8)):Calls Tryz.prog 89 #[.slice A n c,.int .i64 k] w fun e w'=>e = .returned (.tuple #[.int .i64 0,.slice none 0 0,.int .i64 2])∧Below w.heap.size w w':=by
 by_cases h1:k<1
 ·clear h
  have d1:decide (k<1)=true:=decide_eq_true h1
  go_enter Tryz.func89,Tryz.ntmps89
  go_wp2_with go_skip
  go_ret3
  exact⟨rfl,Below.refl _ _⟩
 ·have d1:decide (k<1)=false:=decide_eq_false h1
  have d2:decide (8<k)=true:=decide_eq_true (by omega)
  clear h
  go_enter Tryz.func89,Tryz.ntmps89
  go_wp2_with go_skip
  go_ret3
  exact⟨rfl,Below.refl _ _⟩
theorem y_take_empty(A:Option Addr)(c:Nat)(k:Int)(w:World)(h:1≤k∧k≤8):Calls Tryz.prog 89 #[.slice A 0 c,.int .i64 k] w fun e w'=>e = .returned (.tuple #[.int .i64 0,.slice none 0 0,.int .i64 10])∧Below w.heap.size w w':=by
 have d1:decide (k<1)=false:=decide_eq_false (by omega)
 have d2:decide (8<k)=false:=decide_eq_false (by omega)
 go_enter Tryz.func89,Tryz.ntmps89
 go_wp2_with go_skip
 go_ret3
 exact⟨rfl,Below.refl _ _⟩
namespace Px
theorem doc_val(a y j:Nat)(ha:a<2147483648)(hj:j≤5):wrap64 ((a:Int)+wrap64 ((y:Int) % 128*2 ^ (j*7)))=((a+y % 128*2 ^ (j*7):Nat):Int):=by
 have hp:2 ^ (j*7)≤2 ^ 35:=Nat.pow_le_pow_right (by decide) (by omega)
 have hm:y % 128*2 ^ (j*7)≤127*2 ^ 35:=Nat.mul_le_mul (by omega) hp
 have e1:(y:Int) % 128*2 ^ (j*7)=((y % 128*2 ^ (j*7):Nat):Int):=by rw[Int.natCast_mul,Int.natCast_pow,Int.natCast_emod];rfl
 rw[e1]
 generalize y % 128*2 ^ (j*7)=q at *
 rw[IntWalk.wrap64_in (q:Int) (by omega),IntWalk.wrap64_in ((a:Int)+(q:Int)) (by omega)]
 omega
theorem scan_cons_long(n j:Nat)(y:UInt8)(ys:List UInt8)(h:5≤j∨2147483648≤n+y.toNat % 128*2 ^ (j*7)):scan n j (y::ys)=(60,0,0):=by
 have e7:7*j=j*7:=Nat.mul_comm _ _
 rw[scan,e7,if_pos (by omega)]
theorem scan_cons_go(n j:Nat)(y:UInt8)(ys:List UInt8)(h:j<5)(h2:n+y.toNat % 128*2 ^ (j*7)<2147483648):scan n j (y::ys)=if y.toNat<128 then (0,n+y.toNat % 128*2 ^ (j*7),j+1) else scan (n+y.toNat % 128*2 ^ (j*7)) (j+1) ys:=by
 have e7:7*j=j*7:=Nat.mul_comm _ _
 rw[scan,e7,if_neg (by omega)]
theorem dec_ge{a:Nat}{V:Int}(hv:V=(a:Int))(h:2147483648≤a):decide ((2147483648:Int)≤V)=true:=decide_eq_true (by omega)
theorem dec_lt{a:Nat}{V:Int}(hv:V=(a:Int))(h:a<2147483648):decide ((2147483648:Int)≤V)=false:=decide_eq_false (by omega)
def AtT(M N0:Nat)(ys:List UInt8)(j acc:Nat)(mo:Bool):Prop:=
 acc<2147483648∧j≤ys.length∧(mo=true→j≤5∧N0=M∧scan M 0 ys=scan acc j (ys.drop j))∧(mo=false→j≤6∧((j=0∧acc=N0∧N0<M)∨(N0=M∧scan M 0 ys=(0,acc,j))))
theorem atT_next{M N0:Nat}{ys:List UInt8}{j acc:Nat}{y:Nat}(h5:j<5)(hjl:j<ys.length)(hacc:acc<2147483648)(hNM:N0=M)(h:scan M 0 ys=if y<128 then (0,acc,j+1) else scan acc (j+1) (ys.drop (j+1))):AtT M N0 ys (j+1) acc (decide (128≤y)):=by
 refine⟨hacc,by omega,fun h1=>?_,fun h1=>?_⟩
 ·have h1:=of_decide_eq_true h1
  exact⟨by omega,hNM,by rw[h,if_neg (by omega)]⟩
 ·have h1:=of_decide_eq_false h1
  exact⟨by omega,.inr ⟨hNM,by rw[h,if_pos (by omega)]⟩⟩
end Px
theorem y_take_yes (A : Option Addr) (n c k : Nat) (x : UInt8) (ys : List UInt8) (w : World) (hA : Bs w w.heap.size A n (x :: ys)) (hnc : n ≤ c) (hn : n ≤ 1000000) (h1 : 1 ≤ k) (h8 : k ≤ 8) :
    Calls Tryz.prog 89 #[.slice A n c, .int .i64 (k : Int)] w fun e w' => ∃ A' c', e = .returned (.tuple #[.int .i64 ((takeN (x :: ys) k).2.1 : Nat), .slice A' (takeR (x :: ys) k).length c', .int .i64 ((takeN (x :: ys) k).1 : Nat)]) ∧ HandS w' w.heap.size A' (takeR (x :: ys) k).length c' (takeR (x :: ys) k) ∧ Below w.heap.size w w' := by
  obtain ⟨i0, hi, hz0, hz1, hz2⟩ := info_parts info_u8
  have hinf := Lib.hid (And.intro hi (And.intro hz0 (And.intro hz1 hz2)))
  clear hi hz0 hz1 hz2
  have hl := hA.1
  rw [List.length_cons] at hl
  have hn1 : ((n : Int) == 0) = false := by rw [beq_eq_false_iff_ne]; omega
  have s0 : (0 : Int) < (n : Int) := by omega
  obtain ⟨b, o, rfl, hb, hcc⟩ := bs_cell hA (by omega)
  obtain ⟨x', hx', c0⟩ := hcc 0 (by omega)
  simp only [List.getElem?_cons_zero, Option.some.injEq] at hx'
  subst hx'
  rw [Nat.add_zero] at c0
  have hcy : ∀ j, j < ys.length → ∃ y, ys.drop j = y :: ys.drop (j + 1) ∧ w.cell? ⟨b, o + (j + 1), none⟩ = some (.int .u8 (y.toNat : Int)) := by
    intro j hj
    obtain ⟨y, hy, hc⟩ := hcc (j + 1) (by omega)
    rw [List.getElem?_cons_succ] at hy
    obtain ⟨hj2, ey⟩ := List.getElem?_eq_some_iff.1 hy
    exact ⟨y, by rw [← ey]; exact List.drop_eq_getElem_cons hj2, hc⟩
  have HCY := Lib.hid hcy
  have HA := Lib.hid hA
  have d1 : decide ((k : Int) < 1) = false := decide_eq_false (by omega)
  have d2 : decide ((8 : Int) < (k : Int)) = false := decide_eq_false (by omega)
  have HF : Hid (∀ w, Calls Tryz.prog 73 #[.int .i64 (k : Int)] w fun e w' => e = .returned (.int .i64 (mx k : Int)) ∧ w = w') := Lib.hid (fun w => x_most k w h1 h8)
  have hM1 := mx_pos h1
  have hM8 := mx_le h8
  have hMs := mx_succ k
  have hul := x.toNat_lt
  have hN0 : x.toNat % 2 ^ k < 2 ^ k := Nat.mod_lt _ (Nat.two_pow_pos k)
  have HT : Hid (takeN (x :: ys) k = if x.toNat % 2 ^ k < mx k then (0, x.toNat % 2 ^ k, 1) else if (scan (mx k) 0 ys).1 = 0 then (0, (scan (mx k) 0 ys).2.1, (scan (mx k) 0 ys).2.2 + 1) else ((scan (mx k) 0 ys).1, 0, 0)) := Lib.hid rfl
  have HR : Hid (takeR (x :: ys) k = if (takeN (x :: ys) k).1 = 0 then (x :: ys).drop (takeN (x :: ys) k).2.2 else []) := Lib.hid rfl
  generalize takeR (x :: ys) k = R at *
  generalize takeN (x :: ys) k = T at *
  rw [← hMs] at HT hN0
  clear hMs
  generalize mx k = M at *
  have hmod : (x.toNat : Int) % ((M : Int) + 1) = ((x.toNat % (M + 1) : Nat) : Int) := by rw [Int.natCast_emod]; rfl
  have HMOD := Lib.hid hmod
  generalize x.toNat % (M + 1) = N0 at *
  clear hA hcc hb hcy hmod
  go_enter Tryz.func89, Tryz.ntmps89
  go_wp2_with (first | go_skip | (go_at_call 73; (with_reducible refine (HF.out _).mono ?_); rintro e w' ⟨rfl, rfl⟩))
  have hN1 : N0 ≤ M := by omega
  go_loopw [8, 9, 10, 11] (fun a t mo sh wr => ∃ (j acc : Nat) (m : Bool), a = .int .i64 (acc : Int) ∧ t = .int .i64 ((j : Int) + 1) ∧ mo = .bool m ∧ sh = .int .i64 ((j : Int) * 7) ∧ AtT M N0 ys j acc m ∧ w = wr) (fun _ t _ _ _ => 10 - (intOf t).toNat)
  case atStart =>
    refine ⟨0, N0, decide (N0 = M), by rw [HMOD.out], rfl, ?_, rfl, ⟨by omega, Nat.zero_le _, fun h => ?_, fun h => ?_⟩, rfl⟩
    · rw [HMOD.out]
      by_cases e : N0 = M
      · rw [decide_eq_true e]; subst e; simp
      · rw [decide_eq_false e, show ((N0 : Int) == (M : Int)) = false from by rw [beq_eq_false_iff_ne]; omega]
    · have e := of_decide_eq_true h
      exact ⟨by omega, e, by rw [e]; rfl⟩
    · have e := of_decide_eq_false h
      exact ⟨by omega, .inl ⟨rfl, rfl, by omega⟩⟩
  case round =>
    obtain ⟨j, acc, m, rfl, rfl, rfl, rfl, hat, rfl⟩ := hrel
    have HAT := Lib.hid hat
    obtain ⟨hacc, hjl, hyes, hno⟩ := hat
    cases m with
    | true =>
      obtain ⟨hj5, hNM, hsc⟩ := hyes rfl
      have HSC := Lib.hid hsc
      clear hyes hno hsc
      by_cases hend : j = ys.length
      · have e1 : decide ((n : Int) ≤ (j : Int) + 1) = true := decide_eq_true (by omega)
        have hs10 : scan M 0 ys = (10, 0, 0) := by rw [HSC.out, hend, List.drop_length]; rfl
        have hTT : T = (10, 0, 0) := by rw [HT.out, if_neg (by omega), hs10]; rfl
        have HTT := Lib.hid hTT
        clear hs10 hTT
        go_wp2_with go_skip
        go_ret3
        refine ⟨none, 0, ?_, ?_, Below.refl _ _⟩
        · rw [HR.out, HTT.out]; rfl
        · rw [HR.out, HTT.out]; exact HandS.nil_ _ _
      · have e1 : decide ((n : Int) ≤ (j : Int) + 1) = false := decide_eq_false (by omega)
        obtain ⟨y, hdy, hcy⟩ := HCY.out j (by omega)
        have hyl := y.toNat_lt
        have i1 : (j : Int) + 1 < (n : Int) := by omega
        have i2 : 0 ≤ (j : Int) + 1 := by omega
        have i3 : ((j : Int) + 1).toNat = j + 1 := by omega
        have HDY := Lib.hid hdy
        clear hdy
        have hv := doc_val acc y.toNat j hacc hj5
        have HV := Lib.hid hv
        by_cases hj6 : j = 5
        · have HTT : Hid (T = (60, 0, 0)) := Lib.hid (by rw [HT.out, if_neg (by omega), HSC.out, HDY.out, scan_cons_long _ _ _ _ (by omega)]; rfl)
          have HJ6 := Lib.hid hj6
          clear hv hj6
          go_wp2_with go_skip
          all_goals first
            | (exfalso; have := HJ6.out; omega)
            | (go_ret3
               refine ⟨none, 0, ?_, ?_, Below.refl _ _⟩
               · rw [HR.out, HTT.out]; rfl
               · rw [HR.out, HTT.out]; exact HandS.nil_ _ _)
        · have e2 : ((j : Int) + 1 == 6) = false := by rw [beq_eq_false_iff_ne]; omega
          by_cases hbig : 2147483648 ≤ acc + y.toNat % 128 * 2 ^ (j * 7)
          · have e3 : decide (2147483648 ≤ wrap64 ((acc : Int) + wrap64 ((y.toNat : Int) % 128 * 2 ^ (j * 7)))) = true := dec_ge hv hbig
            skip
            have HTT : Hid (T = (60, 0, 0)) := Lib.hid (by rw [HT.out, if_neg (by omega), HSC.out, HDY.out, scan_cons_long _ _ _ _ (.inr hbig)]; rfl)
            clear hv
            go_wp2_with go_skip
            go_ret3
            refine ⟨none, 0, ?_, ?_, Below.refl _ _⟩
            · rw [HR.out, HTT.out]; rfl
            · rw [HR.out, HTT.out]; exact HandS.nil_ _ _
          · have e3 : decide (2147483648 ≤ wrap64 ((acc : Int) + wrap64 ((y.toNat : Int) % 128 * 2 ^ (j * 7)))) = false := dec_lt hv (Nat.lt_of_not_le hbig)
            have HNEXT := Lib.hid (atT_next (M := M) (N0 := N0) (ys := ys) (j := j) (acc := acc + y.toNat % 128 * 2 ^ (j * 7)) (y := y.toNat) (by omega) (by omega) (Nat.lt_of_not_le hbig) hNM (by rw [HSC.out, HDY.out]; exact scan_cons_go acc j y _ (by omega) (Nat.lt_of_not_le hbig)))
            clear hv
            go_wp2_with go_skip
            go_roundw
            case rel =>
              exact ⟨j + 1, acc + y.toNat % 128 * 2 ^ (j * 7), decide (128 ≤ y.toNat), by rw [HV.out], by rw [Int.natCast_add]; rfl, by rw [show decide ((128 : Int) ≤ (y.toNat : Int)) = decide (128 ≤ y.toNat) from by simp only [decide_eq_decide]; omega], by rw [show (((j + 1 : Nat) : Int) * 7) = (j : Int) * 7 + 7 from by omega], HNEXT.out, trivial⟩
            case measure => simp only [intOf]; omega
    | false =>
      obtain ⟨hj6, hres⟩ := hno rfl
      have hTT : T = (0, acc, j + 1) := by
        rcases hres with ⟨rfl, rfl, h⟩ | ⟨h, hs⟩
        · rw [HT.out, if_pos h]
        · rw [HT.out, if_neg (by omega), hs]; rfl
      have hRR : R = (x :: ys).drop (j + 1) := by rw [HR.out, hTT]; rfl
      have HTT := Lib.hid hTT
      have HRR := Lib.hid hRR
      have hcut := HA.out.cut (k := j + 1) (by omega) hnc
      obtain ⟨A2, hA2⟩ : ∃ A2, (if c = j + 1 then some (⟨b, o, none⟩ : Addr) else some ⟨b, o + (j + 1), none⟩) = A2 := ⟨_, rfl⟩
      have HNO : Hid (A2 = none → c - (j + 1) = 0) := Lib.hid (fun h => if_some_ne (hA2.trans h))
      rw [hA2] at hcut
      have HCUT := Lib.hid hcut
      have i1 : (j : Int) + 1 ≤ (n : Int) := by omega
      have i2 : 0 ≤ (j : Int) + 1 := by omega
      have i3 : ((j : Int) + 1).toNat = j + 1 := by omega
      have i4 : (j : Int) + 1 ≤ (c : Int) := by omega
      have hRl : R.length = n - (j + 1) := by rw [hRR, List.length_drop, List.length_cons, hl]
      have HRL := Lib.hid hRl
      clear hTT hRR hcut hno hyes hres hRl
      go_wp2_with (first
        | go_skip
        | (at_builtin; refine wpList_append_bytes _ rfl (.tmp 65) (.tmp 68) 25 rfl w.heap.size 5 i0 Tryz.underlying25 hinf.out.1 hinf.out.2.1 hinf.out.2.2.1 hinf.out.2.2.2 _ [] rfl (OwnB.lit2 w 5 w.heap.size w.heap.size rfl (Nat.le_refl _)) _ A2 (n - (j + 1)) (c - (j + 1)) ((x :: ys).drop (j + 1)) rfl (HCUT.out.alloc (Nat.le_refl _) _) HNO.out (by simp; omega) (by simp) ?_; intro v2 w2 ho2 hb2; obtain ⟨A3, c3, rfl, hh⟩ := ho2.handS (n := n - (j + 1)) (by rw [List.nil_append]; exact HCUT.out.1); have HH := Lib.hid hh; have HB2 := Lib.hid (((Below.refl _ w).alloc (Nat.le_refl _) _).trans hb2); clear ho2 hb2 hh))
      go_ret3
      refine ⟨A3, c3, ?_, ?_, HB2.out⟩
      · rw [HTT.out, HRL.out]; rfl
      · rw [HRL.out, HRR.out]; exact HH.out
end Go.Proofs.YtahiajeggbpogaaGreatDoor
namespace Go.Proofs.YtahiajeggbpogaaGreatDoor
open Go.RowKit Px
set_option linter.unusedVariables false
set_option linter.unusedSimpArgs false
namespace Px
def putL(n k:Int)(u:Nat):List UInt8:=if MayN n k then putN n.toNat k.toNat u else []
def putE(n k:Int):Int:=if MayN n k then 0 else 2
def sizeV(n k:Int):Int:=((putL n k 0).length:Int)
def takC(xs:List UInt8)(k:Int):Nat×Nat×Nat:=if 1≤k∧k≤8 then takeN xs k.toNat else (2,0,0)
def takL(xs:List UInt8)(k:Int):List UInt8:=if (takC xs k).1=0 then xs.drop (takC xs k).2.2 else []
def upV(xs:List UInt8)(k:Int):Nat:=if 1≤k∧k≤8 then (match xs with | []=>0 | x::_=>x.toNat / 2 ^ k.toNat*2 ^ k.toNat) else 0
def upE(xs:List UInt8)(k:Int):Nat:=if 1≤k∧k≤8 then (match xs with | []=>10 | _::_=>0) else 2
theorem may_nat{n k:Int}(h:MayN n k) : ∃a b:Nat,n=(a:Int)∧k=(b:Int)∧1≤b∧b≤8∧a<2147483648:=by
 obtain⟨⟨h1,h2⟩,h3,h4⟩:=h
 exact⟨n.toNat,k.toNat,by omega,by omega,by omega,by omega,by omega⟩
theorem putL_yes{a b:Nat}{u:Nat}(h:MayN (a:Int) (b:Int)):putL a b u=putN a b u:=if_pos h
theorem putL_no{n k:Int}{u:Nat}(h : ¬MayN n k):putL n k u=[]:=if_neg h
theorem putE_yes{n k:Int}(h:MayN n k):putE n k=0:=if_pos h
theorem putE_no{n k:Int}(h : ¬MayN n k):putE n k=2:=if_neg h
theorem takC_yes{xs:List UInt8}{b:Nat}(h1:1≤b)(h8:b≤8):takC xs (b:Int)=takeN xs b:=if_pos ⟨by omega,by omega⟩
theorem takC_no{xs:List UInt8}{k:Int}(h : ¬(1≤k∧k≤8)):takC xs k=(2,0,0):=if_neg h
end Px
theorem Y_Take(A:Option Addr)(n c:Nat)(xs:List UInt8)(k:Int)(w:World)(hA:Bs w w.heap.size A n xs)(hnc:n≤c)(hn:n≤1000000) :
  Calls Tryz.prog 89 #[.slice A n c,.int .i64 k] w fun e w'=>∃A' c',e = .returned (.tuple #[.int .i64 ((takC xs k).2.1:Nat),.slice A' (takL xs k).length c',.int .i64 ((takC xs k).1:Nat)])∧HandS w' w.heap.size A' (takL xs k).length c' (takL xs k)∧Below w.heap.size w w':=by
 by_cases h:1≤k∧k≤8
 ·obtain⟨b,rfl⟩:=Int.eq_ofNat_of_zero_le (show 0≤k by omega)
  have h1:1≤b:=by omega
  have h8:b≤8:=by omega
  unfold takL
  rw[takC_yes h1 h8]
  cases xs with
  | nil=>
   obtain rfl:n=0:=hA.1.symm
   refine(y_take_empty A c _ w h).mono ?_
   rintro e w' ⟨rfl,hb⟩
   exact⟨none,0,rfl,HandS.nil_ _ _,hb⟩
  | cons x ys=>
   exact y_take_yes A n c b x ys w hA hnc hn h1 h8
 ·unfold takL
  rw[takC_no h]
  refine(y_take_no A n c k w h).mono ?_
  rintro e w' ⟨rfl,hb⟩
  exact⟨none,0,rfl,HandS.nil_ _ _,hb⟩
end Go.Proofs.YtahiajeggbpogaaGreatDoor
