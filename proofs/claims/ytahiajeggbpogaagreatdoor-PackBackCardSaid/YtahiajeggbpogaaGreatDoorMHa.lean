import Derived.Test.YtahiajeggbpogaaGreatDoorMGa
namespace Go.Proofs.YtahiajeggbpogaaGreatDoor.Hf
open Oct
def five:List UInt8:=[45,47,48,49,50,51,97,99,101,105,110,111,114,115,116,117]
def six:List UInt8:=[46,52,53,54,55,56,57,58,98,100,102,103,104,108,109,112]
def seven:List UInt8:=[65,66,67,68,69,70,71,72,106,107,113,118,119,120,121,122]
def others:List UInt8:=[0,1,2,3,4,5,6,7,8,9,10,11,12,13,14,15,16,17,18,19,20,21,22,23,24,25,26,27,28,29,30,31,32,33,34,35,36,37,38,39,40,41,42,43,44,59,60,61,62,63,64,73,74,75,76,77,78,79,80,81,82,83,84,85,86,87,88,89,90,91,92,93,94,95,96,123,124,125,126,127,128,129,130,131,132,133,134,135,136,137,138,139,140,141,142,143,144,145,146,147,148,149,150,151,152,153,154,155,156,157,158,159,160,161,162,163,164,165,166,167,168,169,170,171,172,173,174,175,176,177,178,179,180,181,182,183,184,185,186,187,188,189,190,191,192,193,194,195,196,197,198,199,200,201,202,203,204,205,206,207,208,209,210,211,212,213,214,215,216,217,218,219,220,221,222,223,224,225,226,227,228,229,230,231,232,233,234,235,236,237,238,239,240,241,242,243,244,245,246,247,248,249,250,251,252,253,254,255]
def rowL:Nat→List UInt8
 | 0=>five
 | 1=>six
 | 2=>seven
 | _=>others
def rowF:Nat→Nat
 | 0=>0
 | 1=>32
 | 2=>96
 | _=>1792
def rowM:Nat→Nat
 | 0=>5
 | 1=>6
 | 2=>7
 | _=>11
def rowOf(c:UInt8):Nat:=if five.contains c then 0 else if six.contains c then 1 else if seven.contains c then 2 else 3
def cod(c:UInt8):Nat:=rowF (rowOf c)+(rowL (rowOf c)).idxOf c
def mny(c:UInt8):Nat:=rowM (rowOf c)
def findN(code many:Int):Option UInt8:=
 if many=5∧0≤code then five[code.toNat]? else if many=6∧32≤code then six[(code-32).toNat]? else if many=7∧96≤code then seven[(code-96).toNat]?
 else if many=11∧1792≤code then others[(code-1792).toNat]? else none
theorem all_bytes{p:UInt8→Prop}(h : ∀n:Fin 256,p (UInt8.ofNat n.val))(c:UInt8):p c:=by
 have:=h ⟨c.toNat,c.toNat_lt⟩
 simpa using this
theorem cod_rangeF : ∀n:Fin 256,(mny (UInt8.ofNat n.val)=5∧cod (UInt8.ofNat n.val)<16)∨(mny (UInt8.ofNat n.val)=6∧32≤cod (UInt8.ofNat n.val)∧cod (UInt8.ofNat n.val)<48)∨(mny (UInt8.ofNat n.val)=7∧96≤cod (UInt8.ofNat n.val)∧cod (UInt8.ofNat n.val)<112)∨(mny (UInt8.ofNat n.val)=11∧1792≤cod (UInt8.ofNat n.val)∧cod (UInt8.ofNat n.val)<2000):=by decide +kernel
theorem cod_range(c:UInt8):(mny c=5∧cod c<16)∨(mny c=6∧32≤cod c∧cod c<48)∨(mny c=7∧96≤cod c∧cod c<112)∨(mny c=11∧1792≤cod c∧cod c<2000):=
 all_bytes (p:=fun c=>(mny c=5∧cod c<16)∨(mny c=6∧32≤cod c∧cod c<48)∨(mny c=7∧96≤cod c∧cod c<112)∨(mny c=11∧1792≤cod c∧cod c<2000)) cod_rangeF c
theorem find_codF : ∀n:Fin 256,findN (cod (UInt8.ofNat n.val):Int) (mny (UInt8.ofNat n.val):Int)=some (UInt8.ofNat n.val):=by decide +kernel
theorem find_cod(c:UInt8):findN (cod c:Int) (mny c:Int)=some c:=all_bytes (p:=fun c=>findN (cod c:Int) (mny c:Int)=some c) find_codF c
theorem cod_inj{c d:UInt8}(h:cod c=cod d)(h2:mny c=mny d):c=d:=by
 have h3:=find_cod c
 rw[h,h2,find_cod d] at h3
 exact(Option.some.inj h3).symm
theorem row0 : ∀i:Fin 16,cod (five[i.val]'(i.isLt))=i.val∧mny (five[i.val]'(i.isLt))=5:=by decide +kernel
theorem row1 : ∀i:Fin 16,cod (six[i.val]'(i.isLt))=32+i.val∧mny (six[i.val]'(i.isLt))=6:=by decide +kernel
theorem row2 : ∀i:Fin 16,cod (seven[i.val]'(i.isLt))=96+i.val∧mny (seven[i.val]'(i.isLt))=7:=by decide +kernel
theorem row3 : ∀i:Fin 208,cod (others[i.val]'(i.isLt))=1792+i.val∧mny (others[i.val]'(i.isLt))=11:=by decide +kernel
theorem find_some{code many:Int}{c:UInt8}(h:findN code many=some c):code=(cod c:Int)∧many=(mny c:Int):=by
 unfold findN at h
 split at h
 ·rename_i hc
  obtain⟨hi,he⟩:=List.getElem?_eq_some_iff.1 h
  obtain⟨q1,q2⟩:=row0 ⟨code.toNat,hi⟩
  replace q1:cod (five[code.toNat]'hi)=code.toNat:=q1
  replace q2:mny (five[code.toNat]'hi)=5:=q2
  rw[he] at q1 q2
  omega
 ·split at h
  ·rename_i hc
   obtain⟨hi,he⟩:=List.getElem?_eq_some_iff.1 h
   obtain⟨q1,q2⟩:=row1 ⟨(code-32).toNat,hi⟩
   replace q1:cod (six[(code-32).toNat]'hi)=32+(code-32).toNat:=q1
   replace q2:mny (six[(code-32).toNat]'hi)=6:=q2
   rw[he] at q1 q2
   omega
  ·split at h
   ·rename_i hc
    obtain⟨hi,he⟩:=List.getElem?_eq_some_iff.1 h
    obtain⟨q1,q2⟩:=row2 ⟨(code-96).toNat,hi⟩
    replace q1:cod (seven[(code-96).toNat]'hi)=96+(code-96).toNat:=q1
    replace q2:mny (seven[(code-96).toNat]'hi)=7:=q2
    rw[he] at q1 q2
    omega
   ·split at h
    ·rename_i hc
     obtain⟨hi,he⟩:=List.getElem?_eq_some_iff.1 h
     obtain⟨q1,q2⟩:=row3 ⟨(code-1792).toNat,hi⟩
     replace q1:cod (others[(code-1792).toNat]'hi)=1792+(code-1792).toNat:=q1
     replace q2:mny (others[(code-1792).toNat]'hi)=11:=q2
     rw[he] at q1 q2
     omega
    ·cases h
theorem find_iff{code many:Int}{c:UInt8}:findN code many=some c↔code=(cod c:Int)∧many=(mny c:Int):=
 ⟨find_some,fun⟨h1,h2⟩=>by rw[h1,h2];exact find_cod c⟩
def cbits(c:UInt8):List Nat:=(List.range (mny c)).map fun t=>cod c / 2 ^ (mny c-1-t) % 2
def bl(b:List UInt8):List Nat:=b.flatMap cbits
theorem cbits_length(c:UInt8):(cbits c).length=mny c:=by simp[cbits]
theorem cbits_get(c:UInt8){t:Nat}(h:t<mny c)(d:Nat):(cbits c).getD t d=cod c / 2 ^ (mny c-1-t) % 2:=by simp[cbits,h]
theorem bl_snoc(b:List UInt8)(c:UInt8):bl (b++[c])=bl b++cbits c:=by simp[bl]
theorem bl_cons(b:List UInt8)(c:UInt8):bl (c::b)=cbits c++bl b:=by simp[bl]
theorem bl_append(a b:List UInt8):bl (a++b)=bl a++bl b:=by simp[bl]
theorem mny_bd(c:UInt8):5≤mny c∧mny c≤11:=by have:=cod_range c;omega
theorem bl_le(b:List UInt8):(bl b).length≤11*b.length:=by
 induction b with
 | nil=>simp[bl]
 | cons c b ih=>have:=mny_bd c;rw[bl_cons,List.length_append,cbits_length,List.length_cons];omega
theorem cod_lt(c:UInt8):cod c<2 ^ mny c:=by
 rcases cod_range c with h | h | h | h<;>rw[h.1]<;>omega
def IsPut(l:List Nat)(o:List UInt8):Prop:=o.length=(l.length+7) / 8∧∀i,i<8*o.length→bitOf o i=l.getD i 1
theorem IsPut.one{l:List Nat}{o o':List UInt8}(h:IsPut l o)(h':IsPut l o'):o=o':=
 list_ext (h.1.trans h'.1.symm) fun i hi=>(h.2 i hi).trans (h'.2 i (by have:=h.1;have:=h'.1;omega)).symm
theorem getD_left{a b:List Nat}{i d:Nat}(h:i<a.length):(a++b).getD i d=a.getD i d:=by
 simp only[List.getD_eq_getElem?_getD,List.getElem?_append_left h]
theorem getD_right{a b:List Nat}{i d:Nat}(h:a.length≤i):(a++b).getD i d=b.getD (i-a.length) d:=by
 simp only[List.getD_eq_getElem?_getD,List.getElem?_append_right h]
structure IsPart (l:List Nat) (pre:List UInt8) (bits used:Nat):Prop where
 len:l.length=8*pre.length+used
 whole : ∀i,i<8*pre.length→bitOf pre i=l.getD i 0
 rest : ∀t,t<used→bits / 2 ^ (used-1-t) % 2=l.getD (8*pre.length+t) 0
theorem IsPart.nil:IsPart [] [] 0 0:=⟨rfl,fun i hi=>absurd hi (by simp),fun t ht=>absurd ht (by simp)⟩
theorem IsPart.code{l:List Nat}{pre:List UInt8}{bits used:Nat}(h:IsPart l pre bits used)(c:UInt8):IsPart (l++cbits c) pre (bits*2 ^ mny c+cod c) (used+mny c):=by
 have hl:=h.len
 have hc:=cod_lt c
 refine⟨by rw[List.length_append,cbits_length];omega,fun i hi=>?_,fun t ht=>?_⟩
 ·rw[h.whole i hi,getD_left (by omega)]
 ·by_cases h1:t<used
  ·rw[getD_left (by omega),←h.rest t h1]
   have e:used+mny c-1-t=mny c+(used-1-t):=by omega
   rw[e,Nat.pow_add,←Nat.div_div_eq_div_mul,Nat.mul_comm,Nat.mul_add_div (Nat.two_pow_pos _),Nat.div_eq_of_lt hc,Nat.add_zero]
  ·rw[getD_right (by omega),hl,show 8*pre.length+t-(8*pre.length+used)=t-used by omega,cbits_get c (by omega)]
   have e:used+mny c-1-t=mny c-1-(t-used):=by omega
   rw[e]
   obtain⟨m,hm⟩ : ∃m,mny c=(mny c-1-(t-used))+1+m:=⟨t-used,by omega⟩
   generalize mny c-1-(t-used)=s at *
   have e2:bits*2 ^ mny c=2 ^ s*(2*(bits*2 ^ m)):=by
    rw[hm,Nat.pow_add,Nat.pow_succ]
    simp only[Nat.mul_assoc,Nat.mul_comm,Nat.mul_left_comm]
   rw[e2,Nat.mul_add_div (Nat.two_pow_pos _),Nat.mul_add_mod]
theorem IsPart.emit{l:List Nat}{pre:List UInt8}{bits used:Nat}(h:IsPart l pre bits used)(h8:8≤used):IsPart l (pre++[UInt8.ofNat (bits / 2 ^ (used-8))]) bits (used-8):=by
 have hl:=h.len
 have hb:(UInt8.ofNat (bits / 2 ^ (used-8))).toNat=bits / 2 ^ (used-8) % 256:=by simp
 refine⟨by rw[List.length_append,List.length_singleton];omega,fun i hi=>?_,fun t ht=>?_⟩
 ·rw[List.length_append,List.length_singleton] at hi
  by_cases h1:i<8*pre.length
  ·rw[←h.whole i h1]
   unfold bitOf
   rw[List.getElem?_append_left (by omega)]
  ·have h2:=h.rest (i-8*pre.length) (by omega)
   rw[show 8*pre.length+(i-8*pre.length)=i by omega] at h2
   rw[←h2]
   unfold bitOf
   rw[List.getElem?_append_right (by omega),show i / 8-pre.length=0 by omega]
   simp only[List.getElem?_cons_zero,Option.getD_some,hb]
   have e1:i % 8=i-8*pre.length:=by omega
   rw[e1]
   obtain⟨s,hs⟩ : ∃s,7-(i-8*pre.length)=s∧s<8:=⟨_,rfl,by omega⟩
   rw[hs.1,show used-1-(i-8*pre.length)=(used-8)+s by omega,Nat.pow_add,←Nat.div_div_eq_div_mul]
   generalize bits / 2 ^ (used-8)=x
   have hs8:=hs.2
   clear hb h2 hs
   have:s=0∨s=1∨s=2∨s=3∨s=4∨s=5∨s=6∨s=7:=by omega
   rcases this with rfl | rfl | rfl | rfl | rfl | rfl | rfl | rfl<;>simp only[Nat.reducePow]<;>omega
 ·rw[List.length_append,List.length_singleton]
  have h2:=h.rest (t+8) (by omega)
  rw[show 8*(pre.length+1)+t=8*pre.length+(t+8) by omega,←h2]
  rw[show used-8-1-t=used-1-(t+8) by omega]
theorem IsPart.mask{l:List Nat}{pre:List UInt8}{bits used:Nat}(h:IsPart l pre bits used):IsPart l pre (bits % 2 ^ used) used:=by
 refine⟨h.len,h.whole,fun t ht=>?_⟩
 rw[←h.rest t ht]
 obtain⟨m,hm⟩ : ∃m,used=(used-1-t)+1+m:=⟨t,by omega⟩
 generalize used-1-t=s at *
 subst hm
 rw[Nat.add_assoc,Nat.pow_add,Nat.mod_mul_right_div_self]
 rw[Nat.mod_mod_of_dvd _ (by rw[Nat.pow_add];exact Nat.dvd_mul_right _ _)]
theorem IsPart.whole_put{l:List Nat}{pre:List UInt8}{bits:Nat}(h:IsPart l pre bits 0):IsPut l pre:=by
 have hl:=h.len
 refine⟨by omega,fun i hi=>?_⟩
 rw[h.whole i hi]
 simp only[List.getD_eq_getElem?_getD,List.getElem?_eq_getElem (show i<l.length by omega),Option.getD_some]
theorem IsPart.fill{l:List Nat}{pre:List UInt8}{bits used:Nat}(h:IsPart l pre bits used)(h0:0<used)(h8:used<8):IsPut l (pre++[UInt8.ofNat (bits*2 ^ (8-used)+(2 ^ (8-used)-1))]):=by
 have hl:=h.len
 have hb:(UInt8.ofNat (bits*2 ^ (8-used)+(2 ^ (8-used)-1))).toNat=(bits*2 ^ (8-used)+(2 ^ (8-used)-1)) % 256:=by simp
 refine⟨by rw[List.length_append,List.length_singleton];omega,fun i hi=>?_⟩
 rw[List.length_append,List.length_singleton] at hi
 by_cases h1:i<8*pre.length
 ·have e:l.getD i 1=l.getD i 0:=by simp only[List.getD_eq_getElem?_getD,List.getElem?_eq_getElem (show i<l.length by omega),Option.getD_some]
  rw[e,←h.whole i h1]
  unfold bitOf
  rw[List.getElem?_append_left (by omega)]
 ·unfold bitOf
  rw[List.getElem?_append_right (by omega),show i / 8-pre.length=0 by omega]
  simp only[List.getElem?_cons_zero,Option.getD_some,hb]
  have e1:i % 8=i-8*pre.length:=by omega
  rw[e1]
  by_cases h2:i-8*pre.length<used
  ·have h3:=h.rest (i-8*pre.length) h2
   rw[show 8*pre.length+(i-8*pre.length)=i by omega] at h3
   have e:l.getD i 1=l.getD i 0:=by simp only[List.getD_eq_getElem?_getD,List.getElem?_eq_getElem (show i<l.length by omega),Option.getD_some]
   rw[e,←h3]
   have:used=1∨used=2∨used=3∨used=4∨used=5∨used=6∨used=7:=by omega
   have hj:i-8*pre.length<used:=h2
   generalize i-8*pre.length=j at *
   clear hb h3 e hl h1 hi h
   rcases this with rfl | rfl | rfl | rfl | rfl | rfl | rfl
   all_goals
    have hj2:j=0∨j=1∨j=2∨j=3∨j=4∨j=5∨j=6:=by omega
    rcases hj2 with rfl | rfl | rfl | rfl | rfl | rfl | rfl<;>first | omega | (simp only[Nat.reducePow,Nat.reduceSub];omega)
  ·have e:l.getD i 1=1:=by simp only[List.getD_eq_getElem?_getD,List.getElem?_eq_none (show l.length≤i by omega),Option.getD_none]
   rw[e]
   have:used=1∨used=2∨used=3∨used=4∨used=5∨used=6∨used=7:=by omega
   have hj:i-8*pre.length<8:=by omega
   generalize i-8*pre.length=j at *
   clear hb e hl h1 hi h
   rcases this with rfl | rfl | rfl | rfl | rfl | rfl | rfl
   all_goals
    have hj2:j=0∨j=1∨j=2∨j=3∨j=4∨j=5∨j=6∨j=7:=by omega
    rcases hj2 with rfl | rfl | rfl | rfl | rfl | rfl | rfl | rfl<;>first | omega | (simp only[Nat.reducePow,Nat.reduceSub];omega)
def IsSoFar(l:List Nat)(o:List UInt8):Prop:=o.length=(l.length+7) / 8∧∀i,i<8*o.length→bitOf o i=l.getD i 0
theorem IsSoFar.nil:IsSoFar [] []:=⟨rfl,fun i hi=>absurd hi (by simp)⟩
theorem IsSoFar.code{l:List Nat}{o o':List UInt8}(h:IsSoFar l o)(c:UInt8)(hl:IsLaid o l.length (cod c) (mny c) o'):IsSoFar (l++cbits c) o':=by
 refine⟨by rw[hl.1,List.length_append,cbits_length],fun i hi=>?_⟩
 rw[hl.2 i hi]
 unfold layBit
 by_cases h1:i<l.length
 ·rw[if_pos h1,h.2 i (by have:=h.1;omega),getD_left h1]
 ·rw[if_neg h1,getD_right (by omega)]
  by_cases h2:i<l.length+mny c
  ·rw[if_pos h2,cbits_get c (by omega),show mny c-1-(i-l.length)=l.length+mny c-1-i by omega]
  ·rw[if_neg h2]
   simp only[List.getD_eq_getElem?_getD,List.getElem?_eq_none (show(cbits c).length≤i-l.length by rw[cbits_length];omega),Option.getD_none]
theorem ones_bit(k s:Nat)(h:s<k):(2 ^ k-1) / 2 ^ s % 2=1:=by
 obtain⟨m,rfl⟩ : ∃m,k=s+1+m:=⟨k-s-1,by omega⟩
 have h1:2 ^ (s+1+m)-1=2 ^ s*(2*2 ^ m-1)+(2 ^ s-1):=by
  have e:2 ^ (s+1+m)=2 ^ s*(2*2 ^ m):=by rw[Nat.add_assoc,Nat.pow_add,Nat.pow_add]
  have hp:=Nat.two_pow_pos s
  have hq:=Nat.two_pow_pos m
  rw[e,Nat.mul_sub]
  have:2 ^ s*1≤2 ^ s*(2*2 ^ m):=Nat.mul_le_mul_left _ (by omega)
  omega
 have hp:=Nat.two_pow_pos s
 have hq:=Nat.two_pow_pos m
 rw[h1,Nat.mul_add_div hp,Nat.div_eq_of_lt (show 2 ^ s-1<2 ^ s by omega)]
 omega
theorem IsSoFar.fin{l:List Nat}{o o':List UInt8}(h:IsSoFar l o){k:Nat}(hk:l.length+k=8*o.length)(hl:IsLaid o l.length (2 ^ k-1) k o'):IsPut l o':=by
 have h1:=h.1
 have h2:=hl.1
 refine⟨by omega,fun i hi=>?_⟩
 rw[hl.2 i hi]
 unfold layBit
 by_cases hi1:i<l.length
 ·rw[if_pos hi1,h.2 i (by omega)]
  simp only[List.getD_eq_getElem?_getD,List.getElem?_eq_getElem hi1,Option.getD_some]
 ·rw[if_neg hi1,if_pos (by omega),ones_bit _ _ (by omega)]
  simp only[List.getD_eq_getElem?_getD,List.getElem?_eq_none (show l.length≤i by omega),Option.getD_none]
theorem soFar_len{l:List Nat}{o:List UInt8}(h:IsSoFar l o):l.length≤8*o.length∧8*o.length<l.length+8:=by have:=h.1;omega
end Go.Proofs.YtahiajeggbpogaaGreatDoor.Hf
namespace Go.Proofs.YtahiajeggbpogaaGreatDoor.Hf
open Oct
def tryL(xs:List UInt8)(at_ l:Nat):Option UInt8:=if at_+l≤8*xs.length then findN (codeOf xs at_ l:Int) (l:Int) else none
def nextN(xs:List UInt8)(at_:Nat):UInt8×Nat:=
 match tryL xs at_ 5 with
 | some c=>(c,5)
 | none=>match tryL xs at_ 6 with
  | some c=>(c,6)
  | none=>match tryL xs at_ 7 with
   | some c=>(c,7)
   | none=>match tryL xs at_ 11 with
    | some c=>(c,11)
    | none=>(0,0)
theorem try_out{xs:List UInt8}{a l:Nat}(h:8*xs.length<a+l):tryL xs a l=none:=by unfold tryL;rw[if_neg (by omega)]
theorem try_in{xs:List UInt8}{a l:Nat}(h:a+l≤8*xs.length):tryL xs a l=findN (codeOf xs a l:Int) (l:Int):=by unfold tryL;rw[if_pos h]
theorem next_hit{xs:List UInt8}{a k:Nat}{c:UInt8}(hk:k<4)(h : ∀j,j<k→tryL xs a (rowM j)=none)(hc:tryL xs a (rowM k)=some c):nextN xs a=(c,rowM k):=by
 unfold nextN
 have:k=0∨k=1∨k=2∨k=3:=by omega
 rcases this with rfl | rfl | rfl | rfl
 ·rw[show tryL xs a 5=some c from hc];rfl
 ·rw[show tryL xs a 5=none from h 0 (by omega),show tryL xs a 6=some c from hc];rfl
 ·rw[show tryL xs a 5=none from h 0 (by omega),show tryL xs a 6=none from h 1 (by omega),show tryL xs a 7=some c from hc];rfl
 ·rw[show tryL xs a 5=none from h 0 (by omega),show tryL xs a 6=none from h 1 (by omega),show tryL xs a 7=none from h 2 (by omega),show tryL xs a 11=some c from hc];rfl
theorem next_none{xs:List UInt8}{a:Nat}(h : ∀j,j<4→tryL xs a (rowM j)=none):nextN xs a=(0,0):=by
 unfold nextN
 rw[show tryL xs a 5=none from h 0 (by omega),show tryL xs a 6=none from h 1 (by omega),show tryL xs a 7=none from h 2 (by omega),show tryL xs a 11=none from h 3 (by omega)]
theorem rowM_mono : ∀k j:Fin 4,k.val≤j.val→rowM k.val≤rowM j.val:=by decide
theorem next_out{xs:List UInt8}{a k:Nat}(hk:k<4)(h : ∀j,j<k→tryL xs a (rowM j)=none)(hc:8*xs.length<a+rowM k):nextN xs a=(0,0):=
 next_none fun j hj=>by
  by_cases h1:j<k
  ·exact h j h1
  ·have:=rowM_mono ⟨k,hk⟩ ⟨j,hj⟩ (by simp only;omega)
   simp only at this
   exact try_out (by omega)
theorem next_some{xs:List UInt8}{a:Nat}(h:(nextN xs a).2≠0):(nextN xs a).2=mny (nextN xs a).1∧a+(nextN xs a).2≤8*xs.length∧codeOf xs a (nextN xs a).2=cod (nextN xs a).1:=by
 have key : ∀(l:Nat) (c:UInt8),tryL xs a l=some c→l=mny c∧a+l≤8*xs.length∧codeOf xs a l=cod c:=by
  intro l c hc
  unfold tryL at hc
  split at hc
  ·have:=find_iff.1 hc
   omega
  ·cases hc
 unfold nextN at *
 split at h
 ·exact key _ _ ‹_›
 ·split at h
  ·exact key _ _ ‹_›
  ·split at h
   ·exact key _ _ ‹_›
   ·split at h
    ·exact key _ _ ‹_›
    ·exact absurd rfl h
theorem next_zero{xs:List UInt8}{a:Nat}(h:(nextN xs a).2=0):nextN xs a=(0,0)∧∀l,l=5∨l=6∨l=7∨l=11→tryL xs a l=none:=by
 unfold nextN at *
 split at h
 ·cases h
 ·split at h
  ·cases h
  ·split at h
   ·cases h
   ·split at h
    ·cases h
    ·rename_i h5 _ h6 _ h7 _ h11
     exact⟨rfl,fun l hl=>by rcases hl with rfl | rfl | rfl | rfl<;>assumption⟩
theorem next_le(xs:List UInt8)(a:Nat):(nextN xs a).2≤11:=by
 by_cases h:(nextN xs a).2=0
 ·omega
 ·have:=next_some h;have:=mny_bd (nextN xs a).1;omega
theorem apart(c d:UInt8)(h:mny c≤mny d)(he:cod d / 2 ^ (mny d-mny c)=cod c):c=d:=by
 rcases cod_range c with ⟨hc,r⟩ | ⟨hc,r⟩ | ⟨hc,r⟩ | ⟨hc,r⟩<;>rcases cod_range d with ⟨hd,s⟩ | ⟨hd,s⟩ | ⟨hd,s⟩ | ⟨hd,s⟩<;>rw[hc,hd] at he<;>simp only[Nat.reduceSub,Nat.reducePow,Nat.div_one] at he<;>first | omega | exact cod_inj (by omega) (by omega)
theorem next_of {xs : List UInt8} {a : Nat} {c : UInt8} (hl : a + mny c ≤ 8 * xs.length) (hb : codeOf xs a (mny c) = cod c) : nextN xs a = (c, mny c) := by
  have key : ∀ l d, tryL xs a l = some d → l ≤ mny c → l = mny d ∧ d = c := by
    intro l d hd hlt
    unfold tryL at hd
    split at hd
    · obtain ⟨h1, h2⟩ := find_iff.1 hd
      have h2' : l = mny d := by omega
      refine ⟨h2', apart d c (by omega) ?_⟩
      have h3 := codeOf_add xs a l (mny c - l)
      rw [show l + (mny c - l) = mny c by omega, hb] at h3
      rw [h3, ← h2', Nat.mul_comm, Nat.mul_add_div (Nat.two_pow_pos _), Nat.div_eq_of_lt (codeOf_lt _ _ _)]
      omega
    · cases hd
  have hm : tryL xs a (mny c) = some c := by rw [try_in hl, hb]; exact find_cod c
  have hno : ∀ l, l < mny c → tryL xs a l = none := by
    intro l hlt
    cases hq : tryL xs a l with
    | none => rfl
    | some d =>
      obtain ⟨h1, h2⟩ := key l d hq (by omega)
      subst h2
      omega
  rcases cod_range c with h | h | h | h
  · rw [h.1] at hm hno ⊢; exact next_hit (k := 0) (by omega) (fun j hj => absurd hj (by omega)) hm
  · rw [h.1] at hm hno ⊢; exact next_hit (k := 1) (by omega) (fun j hj => hno _ (by obtain rfl : j = 0 := (by omega); decide)) hm
  · rw [h.1] at hm hno ⊢; exact next_hit (k := 2) (by omega) (fun j hj => hno _ (by have : j = 0 ∨ j = 1 := by omega
                                                                                    rcases this with rfl | rfl <;> decide)) hm
  · rw [h.1] at hm hno ⊢; exact next_hit (k := 3) (by omega) (fun j hj => hno _ (by have : j = 0 ∨ j = 1 ∨ j = 2 := by omega
                                                                                    rcases this with rfl | rfl | rfl <;> decide)) hm
structure Run (xs l:List UInt8) (a:Nat):Prop where
 len:(bl l).length=a
 le:a≤8*xs.length
 bits : ∀i,i<a→bitOf xs i=(bl l).getD i 0
theorem Run.nil(xs:List UInt8):Run xs [] 0:=⟨rfl,by omega,fun i hi=>absurd hi (by omega)⟩
theorem code_bits(c:UInt8)(xs:List UInt8)(a:Nat):codeOf xs a (mny c)=cod c↔∀t,t<mny c→bitOf xs (a+t)=(cbits c).getD t 0:=by
 constructor
 ·intro h t ht
  rw[cbits_get c ht,←h,codeOf_bit _ _ _ _ ht]
 ·intro h
  exact codeOf_eq (cod_lt c) fun t ht=>by rw[h t ht,cbits_get c ht]
theorem Run.step{xs l:List UInt8}{a:Nat}(h:Run xs l a)(hn:(nextN xs a).2≠0):Run xs (l++[(nextN xs a).1]) (a+(nextN xs a).2):=by
 obtain⟨h1,h2,h3⟩:=next_some hn
 generalize nextN xs a=x at *
 obtain⟨c,m⟩:=x
 simp only at *
 subst h1
 have h4:=(code_bits c xs a).1 h3
 refine⟨by rw[bl_snoc,List.length_append,cbits_length,h.len],h2,fun i hi=>?_⟩
 rw[bl_snoc]
 by_cases hia:i<a
 ·rw[getD_left (by rw[h.len];exact hia)];exact h.bits i hia
 ·rw[getD_right (by rw[h.len];omega),h.len]
  have:=h4 (i-a) (by omega)
  rw[show a+(i-a)=i by omega] at this
  exact this
theorem Run.pre{xs p q:List UInt8}{a:Nat}(h:Run xs (p++q) a):Run xs p (bl p).length:=by
 have hl:=h.len
 rw[bl_append,List.length_append] at hl
 refine⟨rfl,by have:=h.le;omega,fun i hi=>?_⟩
 have:=h.bits i (by omega)
 rw[bl_append,getD_left hi] at this
 exact this
theorem Run.next{xs p q:List UInt8}{c:UInt8}{a:Nat}(h:Run xs (p++c::q) a):nextN xs (bl p).length=(c,mny c):=by
 have hl:=h.len
 rw[bl_append,List.length_append,bl_cons,List.length_append,cbits_length] at hl
 have hle:=h.le
 refine next_of (by omega) ((code_bits c xs _).2 fun t ht=>?_)
 rw[h.bits _ (by omega),bl_append,getD_right (by omega),bl_cons,show(bl p).length+t-(bl p).length=t by omega,getD_left (by rw[cbits_length];exact ht)]
structure Ends (xs l:List UInt8) (a:Nat):Prop where
 run:Run xs l a
 fin:(nextN xs a).2=0
theorem Ends.one{xs l l':List UInt8}{a a':Nat}(h:Ends xs l a)(h':Ends xs l' a'):l=l'∧a=a':=by
 have key : ∀(n:Nat) (p q q':List UInt8),q.length≤n→Run xs (p++q) a→Run xs (p++q') a'→(nextN xs a).2=0→(nextN xs a').2=0→q=q':=by
  intro n
  induction n with
  | zero=>
   intro p q q' hq r r' f f'
   obtain rfl:=List.eq_nil_of_length_eq_zero (show q.length=0 by omega)
   cases q' with
   | nil=>rfl
   | cons d s=>
    have h1:=r'.next
    have h2:=r.len
    rw[List.append_nil] at h2
    rw[h2] at h1
    rw[h1] at f
    have:=mny_bd d
    simp only at f
    omega
  | succ n ih=>
   intro p q q' hq r r' f f'
   cases q with
   | nil=>
    cases q' with
    | nil=>rfl
    | cons d s=>
     have h1:=r'.next
     have h2:=r.len
     rw[List.append_nil] at h2
     rw[h2] at h1
     rw[h1] at f
     have:=mny_bd d
     simp only at f
     omega
   | cons c q=>
    cases q' with
    | nil=>
     have h1:=r.next
     have h2:=r'.len
     rw[List.append_nil] at h2
     rw[h2] at h1
     rw[h1] at f'
     have:=mny_bd c
     simp only at f'
     omega
    | cons d s=>
     have h1:=r.next
     have h2:=r'.next
     rw[h1] at h2
     obtain⟨rfl,_⟩:=Prod.mk.inj h2
     rw[ih (p++[c]) q s (by simp at hq;omega) (by simpa using r) (by simpa using r') f f']
 obtain rfl:=key l.length [] l l' (Nat.le_refl _) h.run h'.run h.fin h'.fin
 exact⟨rfl,h.run.len.symm.trans h'.run.len⟩
def scan(xs:List UInt8):Nat→List UInt8→Nat→List UInt8×Nat
 | 0,l,a=>(l,a)
 | f+1,l,a=>if (nextN xs a).2=0 then (l,a) else scan xs f (l++[(nextN xs a).1]) (a+(nextN xs a).2)
theorem scan_ends(xs:List UInt8) : ∀(f:Nat) (l:List UInt8) (a:Nat),Run xs l a→8*xs.length<a+f→Ends xs (scan xs f l a).1 (scan xs f l a).2:=by
 intro f
 induction f with
 | zero=>intro l a h hf;exact absurd h.le (by omega)
 | succ f ih=>
  intro l a h hf
  unfold scan
  by_cases h0:(nextN xs a).2=0
  ·rw[if_pos h0];exact⟨h,h0⟩
  ·rw[if_neg h0];exact ih _ _ (h.step h0) (by omega)
def allL(xs:List UInt8):List UInt8:=(scan xs (8*xs.length+1) [] 0).1
def allA(xs:List UInt8):Nat:=(scan xs (8*xs.length+1) [] 0).2
theorem all_ends(xs:List UInt8):Ends xs (allL xs) (allA xs):=scan_ends xs _ _ _ (Run.nil xs) (by omega)
def fillB(xs:List UInt8)(a:Nat):Bool:=decide (8*xs.length-a≤7∧codeOf xs a (8*xs.length-a)=2 ^ (8*xs.length-a)-1)
def takeE(xs:List UInt8):Int:=if fillB xs (allA xs) then 0 else 70
def takeL(xs:List UInt8):List UInt8:=if fillB xs (allA xs) then allL xs else []
theorem ones_code{xs:List UInt8}{a:Nat} : ∀k,(∀t,t<k→bitOf xs (a+t)=1)→codeOf xs a k=2 ^ k-1:=by
 intro k h
 refine codeOf_eq (by have:=Nat.two_pow_pos k;omega) fun t ht=>?_
 rw[h t ht,ones_bit _ _ (by omega)]
theorem code_ones{xs:List UInt8}{a k:Nat}(h:codeOf xs a k=2 ^ k-1) : ∀t,t<k→bitOf xs (a+t)=1:=by
 intro t ht
 rw[←codeOf_bit xs a k t ht,h,ones_bit _ _ (by omega)]
theorem next_ones{xs:List UInt8}{a:Nat}(h : ∀i,a≤i→i<8*xs.length→bitOf xs i=1):(nextN xs a).2=0:=by
 by_cases h0:(nextN xs a).2=0
 ·exact h0
 ·obtain⟨h1,h2,h3⟩:=next_some h0
  have h4:=ones_code (xs:=xs) (a:=a) (nextN xs a).2 fun t ht=>h _ (by omega) (by omega)
  rw[h3,h1] at h4
  rcases cod_range (nextN xs a).1 with ⟨hc,r⟩ | ⟨hc,r⟩ | ⟨hc,r⟩ | ⟨hc,r⟩<;>rw[hc] at h4<;>omega
theorem IsPut.bits{l:List Nat}{o:List UInt8}(h:IsPut l o):(∀i,i<l.length→bitOf o i=l.getD i 0)∧(∀i,l.length≤i→i<8*o.length→bitOf o i=1)∧l.length≤8*o.length∧8*o.length<l.length+8:=by
 have h1:=h.1
 refine⟨fun i hi=>?_,fun i hi h2=>?_,by omega,by omega⟩
 ·rw[h.2 i (by omega)]
  simp only[List.getD_eq_getElem?_getD,List.getElem?_eq_getElem hi,Option.getD_some]
 ·rw[h.2 i h2]
  simp only[List.getD_eq_getElem?_getD,List.getElem?_eq_none hi,Option.getD_none]
theorem put_ends{b o ys:List UInt8}(h:IsPut (bl b) o)(hy : ∀i,bitOf (o++ys) (8*o.length+i)=1∨8*ys.length≤i):Ends (o++ys) b (bl b).length:=by
 obtain⟨h1,h2,h3,h4⟩:=h.bits
 have hl : ∀i,i<8*o.length→bitOf (o++ys) i=bitOf o i:=fun i hi=>by
  unfold bitOf
  rw[List.getElem?_append_left (by omega)]
 refine⟨⟨rfl,by rw[List.length_append];omega,fun i hi=>by rw[hl i (by omega)];exact h1 i hi⟩,next_ones fun i hi hi2=>?_⟩
 rw[List.length_append] at hi2
 by_cases h5:i<8*o.length
 ·rw[hl i h5];exact h2 i hi h5
 ·rcases hy (i-8*o.length) with h6 | h6
  ·rw[show 8*o.length+(i-8*o.length)=i by omega] at h6;exact h6
  ·omega
theorem take_put{b o:List UInt8}(h:IsPut (bl b) o):takeE o=0∧takeL o=b:=by
 have he:=put_ends (ys:=[]) h (fun i=>.inr (by simp))
 rw[List.append_nil] at he
 obtain⟨e1,e2⟩:=he.one (all_ends o)
 obtain⟨h1,h2,h3,h4⟩:=h.bits
 have hf:fillB o (allA o)=true:=by
  rw[←e2]
  unfold fillB
  refine decide_eq_true ⟨by omega,ones_code _ fun t ht=>h2 _ (by omega) (by omega)⟩
 unfold takeE takeL
 rw[if_pos hf,if_pos hf]
 exact⟨rfl,e1.symm⟩
theorem put_take{d:List UInt8}(h:takeE d=0):IsPut (bl (takeL d)) d:=by
 have hf:fillB d (allA d)=true:=by
  unfold takeE at h
  by_cases hf:fillB d (allA d)=true
  ·exact hf
  ·rw[if_neg hf] at h;cases h
 have he:=all_ends d
 unfold takeL
 rw[if_pos hf]
 unfold fillB at hf
 obtain⟨h1,h2⟩:=of_decide_eq_true hf
 have hl:=he.run.len
 have hle:=he.run.le
 refine⟨by omega,fun i hi=>?_⟩
 by_cases hia:i<allA d
 ·rw[he.run.bits i hia]
  simp only[List.getD_eq_getElem?_getD,List.getElem?_eq_getElem (show i<(bl (allL d)).length by omega),Option.getD_some]
 ·have h3:=code_ones h2 (i-allA d) (by omega)
  rw[show allA d+(i-allA d)=i by omega] at h3
  rw[h3]
  simp only[List.getD_eq_getElem?_getD,List.getElem?_eq_none (show(bl (allL d)).length≤i by omega),Option.getD_none]
theorem takeE_or(d:List UInt8):takeE d=0∨(takeE d=70∧takeL d=[]):=by
 unfold takeE takeL
 by_cases h:fillB d (allA d)=true
 ·rw[if_pos h];exact .inl rfl
 ·rw[if_neg h,if_neg h];exact .inr ⟨rfl,rfl⟩
end Go.Proofs.YtahiajeggbpogaaGreatDoor.Hf
