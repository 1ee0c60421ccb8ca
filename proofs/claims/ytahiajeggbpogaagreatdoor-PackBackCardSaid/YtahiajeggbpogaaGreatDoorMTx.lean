import Derived.Test.YtahiajeggbpogaaGreatDoorMHa
import Derived.Test.YtahiajeggbpogaaGreatDoorMPx
import Derived.Laws.IdiomStrings
import Derived.Lib.AppendStr
import Derived.Test.YtahiajeggbpogaaGreatDoorMGa
import Derived.Test.YtahiajeggbpogaaGreatDoorMHb
import Derived.Deep.RegionHeld3
set_option maxRecDepth 100000
set_option maxHeartbeats 4000000
namespace Go.Proofs.YtahiajeggbpogaaGreatDoor.Tx
open Hf Px Oct
set_option linter.unusedVariables false
theorem part_ex : ∀(s p:List UInt8),(∃pre bits used,IsPart (bl p) pre bits used∧used<8)→∃pre bits used,IsPart (bl (p++s)) pre bits used∧used<8
 | [],p,h=>by simpa using h
 | c::s,p,⟨pre,bits,used,h,hu⟩=>by
  have e:p++c::s=(p++[c])++s:=by simp
  rw[e]
  refine part_ex s (p++[c]) ?_
  have h1:=h.code c
  rw[←bl_snoc] at h1
  have hm:=mny_bd c
  rcases Nat.lt_or_ge (used+mny c) 8 with g | g
  ·exact⟨_,_,_,h1,g⟩
  ·have h2:=h1.emit g
   rcases Nat.lt_or_ge (used+mny c-8) 8 with g2 | g2
   ·exact⟨_,_,_,h2,g2⟩
   ·exact⟨_,_,_,h2.emit g2,by omega⟩
theorem put_ex(s:List UInt8) : ∃o,IsPut (bl s) o:=by
 obtain⟨pre,bits,used,h,hu⟩:=part_ex s [] ⟨[],0,0,IsPart.nil,by omega⟩
 rw[List.nil_append] at h
 rcases Nat.eq_zero_or_pos used with g | g
 ·subst g
  exact⟨_,h.whole_put⟩
 ·exact⟨_,h.fill g hu⟩
noncomputable def hO(s:List UInt8):List UInt8:=Classical.choose (put_ex s)
theorem hO_put(s:List UInt8):IsPut (bl s) (hO s):=Classical.choose_spec (put_ex s)
theorem hO_eq{s o:List UInt8}(h:IsPut (bl s) o):o=hO s:=h.one (hO_put s)
theorem hO_len(s:List UInt8):(hO s).length=((bl s).length+7) / 8:=(hO_put s).1
theorem hO_le(s:List UInt8):(hO s).length≤2*s.length+1:=by have:=hO_len s;have:=bl_le s;omega
def plB(s:List UInt8):List UInt8:=putN s.length 7 0++s
noncomputable def biB(s:List UInt8):List UInt8:=putN (hO s).length 7 128++hO s
noncomputable def beB(s:List UInt8):List UInt8:=if ((bl s).length+7) / 8<s.length then biB s else plB s
def nT(xs:List UInt8):Nat:=(takeN xs 7).2.1
def rT(xs:List UInt8):List UInt8:=takL xs 7
def cT(xs:List UInt8):Nat:=(takeN xs 7).1
def wT(xs:List UInt8):Bool:=match xs with
 | []=>false
 | x::_=>decide (128≤x.toNat)
def tE(xs:List UInt8):Int:=if cT xs≠0 then (cT xs:Int) else if (rT xs).length<nT xs then 10 else if wT xs=true then takeE ((rT xs).take (nT xs)) else 0
def tS(xs:List UInt8):List UInt8:=if tE xs≠0 then [] else if wT xs=true then takeL ((rT xs).take (nT xs)) else (rT xs).take (nT xs)
def tR(xs:List UInt8):List UInt8:=if tE xs≠0 then [] else (rT xs).drop (nT xs)
theorem takC7(xs:List UInt8):takC xs 7=takeN xs 7:=takC_yes (b:=7) (by omega) (by omega)
theorem rT_eq(xs:List UInt8):rT xs=if cT xs=0 then xs.drop (takeN xs 7).2.2 else []:=by unfold rT takL cT;rw[takC7]
theorem t_num{xs:List UInt8}(h:cT xs≠0):tE xs=(cT xs:Int)∧tS xs=[]∧tR xs=[]:=by
 have e:tE xs=(cT xs:Int):=if_pos h
 have e0:tE xs≠0:=by rw[e];omega
 exact⟨e,if_pos e0,if_pos e0⟩
theorem t_short{xs:List UInt8}(h:cT xs=0)(h2:(rT xs).length<nT xs):tE xs=10∧tS xs=[]∧tR xs=[]:=by
 have e:tE xs=10:=by unfold tE;rw[if_neg (by omega),if_pos h2]
 have e0:tE xs≠0:=by omega
 exact⟨e,if_pos e0,if_pos e0⟩
theorem t_plain{xs:List UInt8}(h:cT xs=0)(h2:nT xs≤(rT xs).length)(h3:wT xs=false):tE xs=0∧tS xs=(rT xs).take (nT xs)∧tR xs=(rT xs).drop (nT xs):=by
 have e:tE xs=0:=by unfold tE;rw[if_neg (by omega),if_neg (by omega),if_neg (by simp[h3])]
 refine⟨e,?_,?_⟩
 ·unfold tS;rw[if_neg (by omega),if_neg (by simp[h3])]
 ·unfold tR;rw[if_neg (by omega)]
theorem t_bits{xs:List UInt8}(h:cT xs=0)(h2:nT xs≤(rT xs).length)(h3:wT xs=true):tE xs=takeE ((rT xs).take (nT xs))∧tS xs=takeL ((rT xs).take (nT xs))∧tR xs=if takeE ((rT xs).take (nT xs))=0 then (rT xs).drop (nT xs) else []:=by
 have e:tE xs=takeE ((rT xs).take (nT xs)):=by unfold tE;rw[if_neg (by omega),if_neg (by omega),if_pos h3]
 rcases takeE_or ((rT xs).take (nT xs)) with g | ⟨g,g2⟩
 ·refine⟨e,?_,?_⟩
  ·unfold tS;rw[if_neg (by omega),if_pos h3]
  ·unfold tR;rw[if_neg (by omega),if_pos g]
 ·refine⟨e,?_,?_⟩
  ·unfold tS;rw[if_pos (by omega),g2]
  ·unfold tR;rw[if_pos (by omega),if_neg (by omega)]
theorem wT_of{n u:Nat}{ys:List UInt8}(hn:n<2 ^ 31)(hu:u=0∨u=128):wT (putN n 7 u++ys)=decide (u=128):=by
 obtain⟨m,rest,hm,_,e⟩:=put_first n 7 u
 rw[e,List.cons_append]
 show decide (128≤(UInt8.ofNat (u / 2 ^ 7*2 ^ 7+m)).toNat)=_
 rcases hu with rfl | rfl
 ·rw[show(UInt8.ofNat (0 / 2 ^ 7*2 ^ 7+m)).toNat=m from by simp;omega]
  simp
  omega
 ·rw[show(UInt8.ofNat (128 / 2 ^ 7*2 ^ 7+m)).toNat=128+m from by simp;omega]
  simp
theorem num_of{n u:Nat}{ys:List UInt8}(hn:n<2 ^ 31)(hu:u<256):cT (putN n 7 u++ys)=0∧nT (putN n 7 u++ys)=n∧rT (putN n 7 u++ys)=ys:=by
 have h:=take_put (n:=n) (k:=7) (u:=u) (by omega) hu hn ys
 refine⟨by unfold cT;rw[h],by unfold nT;rw[h],?_⟩
 rw[rT_eq,if_pos (by unfold cT;rw[h]),h]
 simp
theorem take_pl{s:List UInt8}(hs:s.length<2 ^ 31)(ys:List UInt8):tE (plB s++ys)=0∧tS (plB s++ys)=s∧tR (plB s++ys)=ys:=by
 unfold plB
 rw[List.append_assoc]
 obtain⟨h1,h2,h3⟩:=num_of (n:=s.length) (u:=0) (ys:=s++ys) hs (by omega)
 obtain⟨e1,e2,e3⟩:=t_plain h1 (by rw[h2,h3];simp) (by rw[wT_of hs (.inl rfl)];simp)
 refine⟨e1,?_,?_⟩
 ·rw[e2,h2,h3];simp
 ·rw[e3,h2,h3];simp
theorem take_bi{s:List UInt8}(hs:(hO s).length<2 ^ 31)(ys:List UInt8):tE (biB s++ys)=0∧tS (biB s++ys)=s∧tR (biB s++ys)=ys:=by
 unfold biB
 rw[List.append_assoc]
 obtain⟨h1,h2,h3⟩:=num_of (n:=(hO s).length) (u:=128) (ys:=hO s++ys) hs (by omega)
 obtain⟨e1,e2,e3⟩:=t_bits h1 (by rw[h2,h3];simp) (by rw[wT_of hs (.inr rfl)];simp)
 have e4:(rT (putN (hO s).length 7 128++(hO s++ys))).take (nT (putN (hO s).length 7 128++(hO s++ys)))=hO s:=by rw[h2,h3];simp
 rw[e4] at e1 e2 e3
 obtain⟨g1,g2⟩:=Hf.take_put (hO_put s)
 refine⟨by rw[e1,g1],by rw[e2,g2],?_⟩
 rw[e3,if_pos g1,h2,h3];simp
theorem pl_len(s:List UInt8):(plB s).length=(numB s.length 7).length+s.length:=by unfold plB;rw[List.length_append,numB_len_putN]
theorem bi_len(s:List UInt8):(biB s).length=(numB (hO s).length 7).length+(hO s).length:=by unfold biB;rw[List.length_append,numB_len_putN]
theorem be_le(s:List UInt8):(beB s).length≤(plB s).length∧(beB s).length≤(biB s).length:=by
 have h1:=pl_len s
 have h2:=bi_len s
 have h3:=hO_len s
 unfold beB
 split
 ·have:=numB_more (n:=(hO s).length) (n':=s.length) (k:=7) (by omega)
  omega
 ·have:=numB_more (n:=s.length) (n':=(hO s).length) (k:=7) (by omega)
  omega
end Go.Proofs.YtahiajeggbpogaaGreatDoor.Tx
namespace Go.Proofs.YtahiajeggbpogaaGreatDoor
open Go.RowKit Px
set_option linter.unusedVariables false
set_option linter.unusedSimpArgs false
namespace Tx
theorem conv_str(w:World)(xs:List UInt8) : ∃c' w',(convert 9 25 (.string ⟨xs.toArray⟩)).run Tryz.prog w = .ok (.slice (some ⟨w.heap.size,0,none⟩) xs.length c') w'∧HandS w' w.heap.size (some ⟨w.heap.size,0,none⟩) xs.length c' xs∧Below w.heap.size w w':=by
 refine⟨_,_,run_bytes_of_string (P:=Tryz.prog) w 9 25 5 ⟨xs.toArray⟩ Tryz.underlying9 Tryz.underlying25 Tryz.underlying5,?_,?_⟩
 ·refine⟨⟨rfl,fun hn=>⟨_,_,rfl,?_,fun j hj=>?_⟩⟩,fun _ b o e=>by cases e;exact Nat.le_refl _,grownCap_ge _ _ _ _,fun e=>by cases e⟩
  ·simp
  ·have hj2:j<xs.length:=hj
   rw[Nat.zero_add]
   have hrow:(w.drew.alloc (.cells (bytesRow ⟨xs.toArray⟩ (grownCap w (ByteArray.size ⟨xs.toArray⟩) 0 5)) 5 ((bytesRow ⟨xs.toArray⟩ (grownCap w (ByteArray.size ⟨xs.toArray⟩) 0 5)).size,(bytesRow ⟨xs.toArray⟩ (grownCap w (ByteArray.size ⟨xs.toArray⟩) 0 5)).size+1))).heap[w.heap.size]? = some _:=World.alloc_heap_new w.drew _
   rw[World.cell?,hrow]
   simp[bytesRow,hj2,Array.getElem?_append]
 ·exact(Below.refl _ w).drew.alloc (by simp) _
theorem str_cells(xs:List UInt8):Lib.strCells ⟨xs.toArray⟩=xs.map bv:=by simp[Lib.strCells,bv]
end Tx
theorem wpList_append_str{P:Program}{w:World}{ops:Array Oper}{rest:List Oper}{o:Oper}{a:Act}{Q:Exit→Act→World→Prop}(hgd:o.guard=none)(sl x:Operand)(t u:TypeId)
  (ho:o.op = .call { callee:=.builtin .append,args:=#[sl,x],argTypes:=#[t,u] })
  (base:Nat) (e:TypeId) (i:TypeInfo) (ht:P.underlying t=some (.slice e)) (hu:P.underlying u=some .string) (hi:P.info? e=some i) (hz:i.zero=some (.int .u8 0)) (hsize:i.size=1) (hby:i.bytes=1)
  (v:Value) (ys:List UInt8) (hs:a.eval sl=v) (hown:OwnB w base e v ys) (xs:List UInt8) (hx:a.eval x = .string ⟨xs.toArray⟩)
  (hlen:ys.length+xs.length≤1000000) (hbase:base≤w.heap.size)
  (h : ∀v' w',OwnB w' base e v' (ys++xs)→Below base w w'→wpList P ops Q rest (a.put o.dst v') w'):wpList P ops Q (o::rest) a w:=by
 have hs2:(ByteArray.mk xs.toArray).size=xs.length:=rfl
 refine Lib.wpList_append_own_string w hgd sl x t u ho base e i ht hu hi hz hsize hby v ys.length (ys.map bv) hs hown ⟨xs.toArray⟩ hx (by rw[hs2];unfold maxLen;omega) (by rw[hs2];omega) hbase ?_
 intro v' w' h1 h2 _
 refine h v' w' ?_ ((Below.refl base w).grown h2 hbase (fun k hk=>(World.ownsRow.lt hown k hk).1))
 unfold OwnB
 rw[Tx.str_cells,hs2] at h1
 rw[List.map_append,List.length_append]
 exact h1
theorem o_put_one(n k:Nat)(u:UInt8)(w:World)(h1:1≤k)(h8:k≤8)(hn:n<mx k) :
  Calls Tryz.prog 47 #[.int .i64 (n:Int),.int .i64 (k:Int),.int .u8 (u.toNat:Int)] w fun e w'=>∃A c,e = .returned (.tuple #[.slice A 1 c,.int .i64 0])∧OwnB w' w.heap.size 5 (.slice A 1 c) [UInt8.ofNat (u.toNat / 2 ^ k*2 ^ k+n)]∧Below w.heap.size w w':=by
 have hn2:=mx_le h8
 have hd:decide (MayN (n:Int) (k:Int))=true:=decide_eq_true ⟨⟨by omega,by omega⟩,by omega,by omega⟩
 have HF:Hid (∀w,Calls Tryz.prog 73 #[.int .i64 (k:Int)] w fun e w'=>e = .returned (.int .i64 (mx k:Int))∧w=w'):=Lib.hid (fun w=>x_most k w h1 h8)
 have hM1:=mx_pos h1
 have hM8:=mx_le h8
 have hMs:=mx_succ k
 have hul:=u.toNat_lt
 have hhi:=hi_of u.toNat k hul
 have hfit:=byte_lo u.toNat k n h8 hul (by omega)
 rw[←hMs] at hhi hfit ⊢
 clear hMs
 generalize mx k=M at *
 have HBY:=Lib.hid (hi_byte u.toNat M n hul (by omega) (by omega) hhi hfit)
 have hlt:decide ((n:Int)<(M:Int))=true:=decide_eq_true (by omega)
 go_enter Tryz.func47,Tryz.ntmps47
 go_wp2_with (first | (go_at_call 72;(with_reducible refine(x_may _ _ _).mono ?_);rintro e w' ⟨rfl,rfl⟩;rw[hd]) | (go_at_call 73;(with_reducible refine(HF.out _).mono ?_);rintro e w' ⟨rfl,rfl⟩))
 go_ret2
 exact⟨_,_,rfl,ownB_one w 5 w.heap.size _ _ (by rw[HBY.out.2]) (Nat.le_refl _),(Below.refl _ w).alloc (Nat.le_refl _) _⟩
theorem o_put_more(n k:Nat)(u:UInt8)(w:World)(h1:1≤k)(h8:k≤8)(hn:n<2147483648)(hge:mx k≤n) :
  Calls Tryz.prog 47 #[.int .i64 (n:Int),.int .i64 (k:Int),.int .u8 (u.toNat:Int)] w fun e w'=>∃A c,e = .returned (.tuple #[.slice A (tailB (n-mx k)).length.succ c,.int .i64 0])∧OwnB w' w.heap.size 5 (.slice A (tailB (n-mx k)).length.succ c) (UInt8.ofNat (u.toNat / 2 ^ k*2 ^ k+mx k)::tailB (n-mx k))∧Below w.heap.size w w':=by
 obtain⟨i0,hi,hz0,hz1,hz2⟩:=info_parts info_u8
 have hinf:=Lib.hid (And.intro hi (And.intro hz0 (And.intro hz1 hz2)))
 clear hi hz0 hz1 hz2
 have hd:decide (MayN (n:Int) (k:Int))=true:=decide_eq_true ⟨⟨by omega,by omega⟩,by omega,by omega⟩
 have HF:Hid (∀w,Calls Tryz.prog 73 #[.int .i64 (k:Int)] w fun e w'=>e = .returned (.int .i64 (mx k:Int))∧w=w'):=Lib.hid (fun w=>x_most k w h1 h8)
 have hM1:=mx_pos h1
 have hM8:=mx_le h8
 have hMs:=mx_succ k
 have hul:=u.toNat_lt
 have hhi:=hi_of u.toNat k hul
 have hfit:=byte_lo u.toNat k (mx k) h8 hul (by omega)
 rw[←hMs] at hhi hfit ⊢
 clear hMs
 generalize mx k=M at *
 have HBY:=Lib.hid (hi_byte u.toNat M M hul (by omega) (Nat.le_refl _) hhi hfit)
 have hlt:decide ((n:Int)<(M:Int))=false:=decide_eq_false (by omega)
 have hlt2:decide (n<M)=false:=decide_eq_false (by omega)
 have hT:=tailB_le (m:=n-M) (by omega)
 have HT:=Lib.hid hT
 generalize UInt8.ofNat (u.toNat / (M+1)*(M+1)+M)=B0 at *
 clear hhi hfit hT
 go_enter Tryz.func47,Tryz.ntmps47
 go_wp2_with (first | (go_at_call 72;(with_reducible refine(x_may _ _ _).mono ?_);rintro e w' ⟨rfl,rfl⟩;rw[hd]) | (go_at_call 73;(with_reducible refine(HF.out _).mono ?_);rintro e w' ⟨rfl,rfl⟩))
 go_loopw [0,10] (fun a v wr=>∃(m:Nat) (ys:List UInt8),a = .int .i64 (m:Int)∧m<2147483648∧ys++tailB m=tailB (n-M)∧OwnB wr w.heap.size 5 v (B0::ys)∧Below w.heap.size w wr) (fun a _ _=>(intOf a).toNat)
 case atStart=>
  refine⟨n-M,[],?_,by omega,rfl,ownB_one _ _ _ _ _ (by rw[HBY.out.2]) (Nat.le_refl _),(Below.refl _ w).alloc (Nat.le_refl _) _⟩
  rw[show((n-M:Nat):Int)=(n:Int)-(M:Int) from by omega]
 case round=>
  obtain⟨m,ys,rfl,hm,hys,hown,hbel⟩:=hrel
  obtain⟨A,c,rfl,_⟩:=hown.form
  have hyl:ys.length≤5:=by have:=congrArg List.length hys;rw[List.length_append] at this;have:=HT.out;omega
  have HO:=Lib.hid hown
  have HB:=Lib.hid hbel
  have HYS:=Lib.hid hys
  clear hown hbel hys
  by_cases h128:128≤m
  ·have ht:=tailB_ge h128
   have HTT:=Lib.hid ht
   have HX:=Lib.hid (byte128 m)
   have hsz:=HB.out.size
   clear ht
   go_wp2_with (at_builtin;refine wpList_append_bytes _ rfl (.tmp 43) (.tmp 48) 25 rfl w.heap.size 5 i0 Tryz.underlying25 hinf.out.1 hinf.out.2.1 hinf.out.2.2.1 hinf.out.2.2.2 _ (B0::ys) rfl (HO.out.alloc _) _ (some ⟨wr.heap.size,0,none⟩) 1 1 [UInt8.ofNat (m % 128+128)] rfl (bs_lit wr 5 [UInt8.ofNat (m % 128+128)] _ wr.heap.size rfl (by simp only[List.map_cons,List.map_nil,bv];rw[HX.out])) (fun e=>by cases e) (by simp;omega) (by simp;omega) ?_;intro v2 w2 ho2 hb2;have HO2:=Lib.hid ho2;have HB2:=Lib.hid ((HB.out.alloc hsz _).trans hb2);clear ho2 hb2)
   go_roundw
   case rel=>
    refine⟨m / 128,ys++[UInt8.ofNat (m % 128+128)],by rw[show((m / 128:Nat):Int)=(m:Int) / 128 from by omega],by omega,?_,HO2.out,HB2.out⟩
    rw[List.append_assoc,List.singleton_append,←HTT.out]
    exact HYS.out
   case measure=>simp only[intOf];omega
  ·have ht:=tailB_lt (show m<128 by omega)
   have HTT:=Lib.hid ht
   have HX:=Lib.hid (byteLt (show m<128 by omega))
   have hsz:=HB.out.size
   clear ht
   go_wp2_with (at_builtin;refine wpList_append_bytes _ rfl (.tmp 52) (.tmp 55) 25 rfl w.heap.size 5 i0 Tryz.underlying25 hinf.out.1 hinf.out.2.1 hinf.out.2.2.1 hinf.out.2.2.2 _ (B0::ys) rfl (HO.out.alloc _) _ (some ⟨wr.heap.size,0,none⟩) 1 1 [UInt8.ofNat m] rfl (bs_lit wr 5 [UInt8.ofNat m] _ wr.heap.size rfl (by simp only[List.map_cons,List.map_nil,bv];rw[HX.out])) (fun e=>by cases e) (by simp;omega) (by simp;omega) ?_;intro v2 w2 ho2 hb2;obtain⟨A2,c2,rfl,_⟩:=ho2.handS (n:=(ys++tailB m).length+1) (by rw[HTT.out];simp);have HH:=Lib.hid ho2;have HB2:=Lib.hid ((HB.out.alloc hsz _).trans hb2);clear ho2 hb2)
   have hys:=HYS.out
   rw[HTT.out] at hys
   have hlen:(tailB (n-M)).length=ys.length+1:=by rw[←hys];simp
   have hh:=HH.out
   rw[List.cons_append,hys] at hh
   have hb2:=HB2.out
   go_ret2
   refine⟨A2,c2,by rw[hlen];simp[HTT.out],?_,hb2⟩
   rw[show(tailB (n-M)).length.succ=(ys++tailB m).length+1 from by rw[HYS.out]]
   exact hh
theorem o_put_yes(n k:Nat)(u:UInt8)(w:World)(h1:1≤k)(h8:k≤8)(hn:n<2147483648) :
  Calls Tryz.prog 47 #[.int .i64 (n:Int),.int .i64 (k:Int),.int .u8 (u.toNat:Int)] w fun e w'=>∃A c,e = .returned (.tuple #[.slice A (numB n k).length c,.int .i64 0])∧OwnB w' w.heap.size 5 (.slice A (numB n k).length c) (putN n k u.toNat)∧Below w.heap.size w w':=by
 by_cases h:n<mx k
 ·rw[show numB n k=[UInt8.ofNat n] from if_pos h,show putN n k u.toNat=[UInt8.ofNat (u.toNat / 2 ^ k*2 ^ k+n)] from if_pos h]
  exact o_put_one n k u w h1 h8 h
 ·rw[show numB n k=UInt8.ofNat (mx k)::tailB (n-mx k) from if_neg h,show putN n k u.toNat=UInt8.ofNat (u.toNat / 2 ^ k*2 ^ k+mx k)::tailB (n-mx k) from if_neg h]
  exact o_put_more n k u w h1 h8 hn (by omega)
end Go.Proofs.YtahiajeggbpogaaGreatDoor
namespace Go.Proofs.YtahiajeggbpogaaGreatDoor
open Go.RowKit Hf Px Oct Tx
set_option linter.unusedVariables false
set_option linter.unusedSimpArgs false
theorem infoc_W:(Tryz.prog.info? 125).map (·.size)=some 3:=by kernel_rfl
namespace Tx
def plainW:Value:=.agg #[.int .u8 0,.func (.func 116) #[] #[],.func (.func 117) #[] #[]]
def bitsW:Value:=.agg #[.int .u8 128,.func (.func 111) #[] #[],.func (.func 113) #[] #[]]
end Tx
theorem x_plain(w:World):Calls Tryz.prog 98 #[] w fun e w'=>e = .returned Tx.plainW∧Below w.heap.size w w':=by
 have K0:Hid (EnvF (w.alloc (.cells #[.int .u8 0,Value.nilFunc,Value.nilFunc] 125)) [] [(w.heap.size,#[.int .u8 0,Value.nilFunc,Value.nilFunc],125)]):=Lib.hid ((EnvF.nil w).boxg 125 #[.int .u8 0,Value.nilFunc,Value.nilFunc] (w.heap.size) (by simp))
 have B0:Hid (Below w.heap.size w (w.alloc (.cells #[.int .u8 0,Value.nilFunc,Value.nilFunc] 125))):=Lib.hid ((Below.refl _ w).alloc (by first | exact Nat.le_refl _ | (simp only[World.size_alloc];omega)) (.cells #[.int .u8 0,Value.nilFunc,Value.nilFunc] 125))
 go_enter Tryz.func98,Tryz.ntmps98
 go_wp2_with (first
  | go_skip
  | (refine at_store 125 (.tmp 0) (.tmp 1) (by rfl) ?_;refine wpList_put (by rfl) 125 (.tmp 0) (.tmp 1) (by rfl) (w.heap.size) 0 (.agg #[.int .u8 0,.func (.func 116) #[] #[],.func (.func 117) #[] #[]]) (by rfl) (by rfl) 125 #[.int .u8 0,Value.nilFunc,Value.nilFunc] #[.int .u8 0,.func (.func 116) #[] #[],.func (.func 117) #[] #[]] (K0.out.row 0 rfl) (by simp[Value.cells]) (by kernel_rfl) infoc_W (by kernel_rfl) ?_;intro w1 hrow hoth hz hbl;have K1:Hid (EnvF w1 [] [(w.heap.size,#[.int .u8 0,.func (.func 116) #[] #[],.func (.func 117) #[] #[]],125)]):=Lib.hid (K0.out.turn 0 rfl hrow hoth hz);have B1:Hid (Below w.heap.size w w1):=Lib.hid (hbl _ _ (Nat.le_refl _) B0.out);clear hrow hoth hz hbl K0 B0))
 exact bodyPost_ret (res_cell1 rfl _ _ _ _ _ _ rfl (K1.out.row 0 rfl) Tryz.underlying125 rfl infoc_W) rfl ⟨rfl,B1.out⟩
theorem x_inBits(w:World):Calls Tryz.prog 96 #[] w fun e w'=>e = .returned Tx.bitsW∧Below w.heap.size w w':=by
 have K0:Hid (EnvF (w.alloc (.cells #[.int .u8 0,Value.nilFunc,Value.nilFunc] 125)) [] [(w.heap.size,#[.int .u8 0,Value.nilFunc,Value.nilFunc],125)]):=Lib.hid ((EnvF.nil w).boxg 125 #[.int .u8 0,Value.nilFunc,Value.nilFunc] (w.heap.size) (by simp))
 have B0:Hid (Below w.heap.size w (w.alloc (.cells #[.int .u8 0,Value.nilFunc,Value.nilFunc] 125))):=Lib.hid ((Below.refl _ w).alloc (by first | exact Nat.le_refl _ | (simp only[World.size_alloc];omega)) (.cells #[.int .u8 0,Value.nilFunc,Value.nilFunc] 125))
 go_enter Tryz.func96,Tryz.ntmps96
 go_wp2_with (first
  | go_skip
  | (refine at_store 125 (.tmp 0) (.tmp 1) (by rfl) ?_;refine wpList_put (by rfl) 125 (.tmp 0) (.tmp 1) (by rfl) (w.heap.size) 0 (.agg #[.int .u8 128,.func (.func 111) #[] #[],.func (.func 113) #[] #[]]) (by rfl) (by rfl) 125 #[.int .u8 0,Value.nilFunc,Value.nilFunc] #[.int .u8 128,.func (.func 111) #[] #[],.func (.func 113) #[] #[]] (K0.out.row 0 rfl) (by simp[Value.cells]) (by kernel_rfl) infoc_W (by kernel_rfl) ?_;intro w1 hrow hoth hz hbl;have K1:Hid (EnvF w1 [] [(w.heap.size,#[.int .u8 128,.func (.func 111) #[] #[],.func (.func 113) #[] #[]],125)]):=Lib.hid (K0.out.turn 0 rfl hrow hoth hz);have B1:Hid (Below w.heap.size w w1):=Lib.hid (hbl _ _ (Nat.le_refl _) B0.out);clear hrow hoth hz hbl K0 B0))
 exact bodyPost_ret (res_cell1 rfl _ _ _ _ _ _ rfl (K1.out.row 0 rfl) Tryz.underlying125 rfl infoc_W) rfl ⟨rfl,B1.out⟩
theorem x_lay1(xs:List UInt8)(w:World):Calls Tryz.prog 116 #[.string ⟨xs.toArray⟩] w fun e w'=>∃A c,e = .returned (.slice A xs.length c)∧HandS w' w.heap.size A xs.length c xs∧Below w.heap.size w w':=by
 obtain⟨c',w1,hr,hh,hb⟩:=Tx.conv_str w xs
 have HH:=Lib.hid hh
 have HB:=Lib.hid hb
 clear hh hb
 go_enter Tryz.func116,Tryz.ntmps116
 go_wp2
 go_ret
 exact⟨_,_,rfl,HH.out,HB.out⟩
theorem x_lay2(xs:List UInt8)(w:World)(hR:Rws w)(hn:xs.length≤10000):Calls Tryz.prog 111 #[.string ⟨xs.toArray⟩] w fun e w'=>∃A c,e = .returned (.slice A (hO xs).length c)∧HandS w' w.heap.size A (hO xs).length c (hO xs)∧Below w.heap.size w w':=by
 obtain⟨c',w1,hr,hh,hb⟩:=Tx.conv_str w xs
 have hP:=h_put (some ⟨w.heap.size,0,none⟩) xs.length c' xs w1 (hR.on hb) hh.1 hn
 have HP:=Lib.hid hP
 have HB:=Lib.hid hb
 clear hh hb hP
 go_enter Tryz.func111,Tryz.ntmps111
 go_wp2_with (go_at_call 112;(with_reducible refine HP.out.mono ?_);rintro e w2 ⟨A2,m2,c2,ys,rfl,hput,hh2,hb2⟩;obtain rfl:=hO_eq hput;obtain rfl:=hh2.1.1;have HH2:=Lib.hid hh2;have HB2:=Lib.hid hb2;clear hput hh2 hb2)
 go_ret
 exact⟨A2,c2,rfl,⟨HH2.out.1,FreshS.less HH2.out.2.1 HB.out.size,HH2.out.2.2⟩,below_step HB.out HB2.out⟩
end Go.Proofs.YtahiajeggbpogaaGreatDoor
namespace Go.Proofs.YtahiajeggbpogaaGreatDoor
open Go.RowKit Hf Go.Shelf Oct
set_option linter.unusedVariables false
set_option linter.unusedSimpArgs false
attribute [local go_sem] Oper.semAt_some
theorem ixb0(A A':Option Addr)(n c n' c':Nat)(w:World):(Instr.index 149 (.agg #[.slice A n c,.slice A' n' c']) (.int .i64 0)).run Tryz.prog w = .ok (.slice A n c) w:=by kernel_rfl
theorem ixb1(A A':Option Addr)(n c n' c':Nat)(w:World):(Instr.index 149 (.agg #[.slice A n c,.slice A' n' c']) (.int .i64 1)).run Tryz.prog w = .ok (.slice A' n' c') w:=by kernel_rfl
theorem x_both(A A':Option Addr)(n c n' c':Nat)(w:World):Calls Tryz.prog 115 #[.slice A n c,.slice A' n' c'] w fun e w'=>
   e = .returned (.func (.func 131) #[] #[.pointer (some ⟨w.heap.size,0,none⟩),.pointer (some ⟨w.heap.size+1,0,none⟩)])∧(w.alloc (.cells #[.slice A n c] 25)).alloc (.cells #[.slice A' n' c'] 25)=w':=by
 go_enter Tryz.func115,Tryz.ntmps115
 go_wp2
 go_ret
 exact⟨rfl,rfl⟩
theorem Tx.take_snoc{xs:List UInt8}{k:Nat}{x:UInt8}(h:xs[k]? = some x):xs.take k++[x]=xs.take (k+1):=by
 obtain⟨hl,rfl⟩:=List.getElem?_eq_some_iff.1 h
 simp
theorem both1_in(k:Nat)(hk:1≤k)(l B1 B2 n c n' c':Nat)(A A':Option Addr)(xs zs:List UInt8)(p:Nat→Prop)(J:List UInt8→World→Prop)(W:World)
  (hpA:0<n→∀b o,A=some ⟨b,o,none⟩→p b) (hpA':0<n'→∀b o,A'=some ⟨b,o,none⟩→p b) (hn:n≤1000000) (hn':n'≤1000000)
  (hY : ∀pre (x:UInt8) W1,J pre W1→pre.length<n+n'→YieldAt Fence.wide (k-1) Tryz.prog l #[.int .u8 (x.toNat:Int)] W1 fun e W'=>e = .returned (.bool true)∧J (pre++[x]) W'∧KeepZ p W1 W')
  (hc1:W.cell? ⟨B1,0,none⟩=some (.slice A n c)) (hc2:W.cell? ⟨B2,0,none⟩=some (.slice A' n' c')) (hA:Bs W W.heap.size A n xs) (hA':Bs W W.heap.size A' n' zs) (h0:J [] W) :
  CallsIn Fence.wide k Tryz.prog 131 #[.func (.yield l) #[] #[],.pointer (some ⟨B1,0,none⟩),.pointer (some ⟨B2,0,none⟩)] W fun e W'=>(∃v,e = .returned v)∧∃ys,ys=xs++zs∧J ys W':=by
 have HY:=Lib.hid hY
 have HPA:=Lib.hid hpA
 have HPA':=Lib.hid hpA'
 have HA:=Lib.hid hA
 have HA':=Lib.hid hA'
 clear hY hpA hpA' hA hA'
 refine callsIn_of_wp Tryz.func131 rfl trivial ?_ rfl
 simp only[Tryz.ntmps131,List.size_toArray,List.length_cons,List.length_nil,Nat.reduceAdd,Nat.reduceSub,Array.replicate_succ,Array.replicate_zero,List.push_toArray,List.append_toArray,List.nil_append,List.cons_append]
 gi_wp2
 gi_loopw [11] (fun t wr=>∃pre,((t = .int .i64 0∧pre=[])∨(t = .int .i64 1∧pre=xs)∨(t = .int .i64 2∧pre=xs++zs))∧KeepZ p W wr∧J pre wr) (fun t _=>2-(intOf t).toNat)
 case atStart=>exact⟨[],.inl ⟨rfl,rfl⟩,KeepZ.refl _ _,h0⟩
 case round=>
  obtain⟨pre0,hcase,hkp,hJj⟩:=hrel
  obtain⟨wo,rfl⟩ : ∃wo:World,wo=wr:=⟨_,rfl⟩
  have HK:=Lib.hid hkp
  have HJj:=Lib.hid hJj
  clear hkp hJj hc1 hc2 h0
  obtain⟨rfl,rfl⟩ | ⟨rfl,rfl⟩ | ⟨rfl,rfl⟩:=hcase
  ·have i0:=ixb0 A A' n c n' c' wo
   gi_wp2
   gi_loopw [16] (fun u wr=>∃j:Nat,j≤n∧u = .int .i64 (j:Int)∧KeepZ p W wr∧J (xs.take j) wr) (fun u _=>n-(intOf u).toNat)
   case atStart=>exact⟨0,Nat.zero_le _,rfl,HK.out,HJj.out⟩
   case round=>
    obtain⟨j,hj,rfl,hkp2,hJq⟩:=hrel
    obtain⟨wi,rfl⟩ : ∃wi:World,wi=wr:=⟨_,rfl⟩
    have HK2:=Lib.hid hkp2
    have HJq:=Lib.hid hJq
    clear hkp2 hJq
    by_cases hlt:j<n
    ·obtain⟨b,o,rfl,hb2,hcc⟩:=bs_cell HA.out (by omega)
     obtain⟨x,hx,hcx⟩:=hcc j hlt
     have hcj:=HK2.out.1.cell (a:=⟨b,o+j,none⟩) (HPA.out (by omega) b o rfl) hcx
     obtain⟨fn,tmps,assign,body,hy,hR⟩:=HY.out (xs.take j) x wi HJq.out (by rw[List.length_take];omega)
     have HRR:=Lib.hid hR
     have HT:=Lib.hid (Tx.take_snoc hx)
     clear hR hcc hx hcx
     gi_wp2
     refine HRR.out.mono ?_
     rintro e w4 ⟨rfl,hJ4,hk4⟩
     have HJ4:=Lib.hid hJ4
     have HK4:=Lib.hid hk4
     clear hJ4 hk4
     gi_wp2
     go_roundw
     case rel=>exact⟨j+1,by omega,by go_num,HK2.out.trans HK4.out,by rw[←HT.out];exact HJ4.out⟩
     case measure=>simp[intOf];omega
    ·obtain rfl:j=n:=by omega
     have hJx:J xs wi:=by
      have h:=HJq.out
      rwa [List.take_of_length_le (by rw[HA.out.1];exact Nat.le_refl _)] at h
     have HJX:=Lib.hid hJx
     clear hJx
     gi_wp2
     go_roundw
     case rel=>exact⟨xs,.inr (.inl ⟨rfl,rfl⟩),HK2.out,HJX.out⟩
     case measure=>simp[intOf]
  ·have i0:=ixb1 A A' n c n' c' wo
   gi_wp2
   gi_loopw [16] (fun u wr=>∃j:Nat,j≤n'∧u = .int .i64 (j:Int)∧KeepZ p W wr∧J (pre0++zs.take j) wr) (fun u _=>n'-(intOf u).toNat)
   case atStart=>exact⟨0,Nat.zero_le _,rfl,HK.out,by simpa using HJj.out⟩
   case round=>
    obtain⟨j,hj,rfl,hkp2,hJq⟩:=hrel
    obtain⟨wi,rfl⟩ : ∃wi:World,wi=wr:=⟨_,rfl⟩
    have HK2:=Lib.hid hkp2
    have HJq:=Lib.hid hJq
    clear hkp2 hJq
    by_cases hlt:j<n'
    ·obtain⟨b,o,rfl,hb2,hcc⟩:=bs_cell HA'.out (by omega)
     obtain⟨x,hx,hcx⟩:=hcc j hlt
     have hcj:=HK2.out.1.cell (a:=⟨b,o+j,none⟩) (HPA'.out (by omega) b o rfl) hcx
     obtain⟨fn,tmps,assign,body,hy,hR⟩:=HY.out (pre0++zs.take j) x wi HJq.out (by rw[List.length_append,List.length_take,HA.out.1];omega)
     have HRR:=Lib.hid hR
     have HT:=Lib.hid (Tx.take_snoc hx)
     clear hR hcc hx hcx
     gi_wp2
     refine HRR.out.mono ?_
     rintro e w4 ⟨rfl,hJ4,hk4⟩
     have HJ4:=Lib.hid hJ4
     have HK4:=Lib.hid hk4
     clear hJ4 hk4
     gi_wp2
     go_roundw
     case rel=>exact⟨j+1,by omega,by go_num,HK2.out.trans HK4.out,by rw[←HT.out,←List.append_assoc];exact HJ4.out⟩
     case measure=>simp[intOf];omega
    ·obtain rfl:j=n':=by omega
     have hJx:J (pre0++zs) wi:=by
      have h:=HJq.out
      rwa [List.take_of_length_le (by rw[HA'.out.1];exact Nat.le_refl _)] at h
     have HJX:=Lib.hid hJx
     clear hJx
     gi_wp2
     go_roundw
     case rel=>exact⟨pre0++zs,.inr (.inr ⟨rfl,rfl⟩),HK2.out,HJX.out⟩
     case measure=>simp[intOf]
  ·gi_wp2
   go_end0
   exact⟨⟨_,rfl⟩,_,rfl,HJj.out⟩
theorem both_stops(k:Nat)(hk:1≤k)(B1 B2 n c n' c':Nat)(A A':Option Addr)(xs zs:List UInt8)(p:Nat→Prop)(w:World)
  (hB1:B1<w.heap.size) (hB2:B2<w.heap.size) (hpA:0<n→∀b o,A=some ⟨b,o,none⟩→p b) (hpA':0<n'→∀b o,A'=some ⟨b,o,none⟩→p b) (hn:n≤1000000) (hn':n'≤1000000)
  (hc1:w.cell? ⟨B1,0,none⟩=some (.slice A n c)) (hc2:w.cell? ⟨B2,0,none⟩=some (.slice A' n' c')) (hA:Bs w w.heap.size A n xs) (hA':Bs w w.heap.size A' n' zs) :
  SeqS Fence.wide k Tryz.prog 131 #[.pointer (some ⟨B1,0,none⟩),.pointer (some ⟨B2,0,none⟩)] (fun x:UInt8=>#[.int .u8 (x.toNat:Int)]) (KeepZ p) (fun _ _=>False) (fun _ _ _=>True) (fun ys=>ys=xs++zs) (n+n') w:=fun l J W hW hJ hSt hY h0=>
 both1_in k hk l B1 B2 n c n' c' A A' xs zs p J W hpA hpA' hn hn' (fun pre x W1 hj hl=>hY pre x W1 hj trivial hl) ((hW.cell (p:=⟨B1,0,none⟩) hB1).trans hc1) ((hW.cell (p:=⟨B2,0,none⟩) hB2).trans hc2) ((hA.below hW).more hW.size) ((hA'.below hW).more hW.size) h0
end Go.Proofs.YtahiajeggbpogaaGreatDoor
namespace Go.Proofs.YtahiajeggbpogaaGreatDoor
open Go.RowKit Hf Oct Tx Go.Shelf
set_option linter.unusedVariables false
set_option linter.unusedSimpArgs false
attribute [local go_sem] Oper.semAt_some
theorem infot_B:(Tryz.prog.info? 25).map (·.size)=some 1:=by kernel_rfl
theorem info_tu8:(Tryz.prog.info? 5).map (fun i=>(i.zero,i.size,i.bytes))=some (some (.int .u8 0),1,1):=by kernel_rfl
theorem x_put7(n:Nat)(u:UInt8)(w:World)(hn:n<2147483648) :
  Calls Tryz.prog 70 #[.int .i64 (n:Int),.int .i64 7,.int .u8 (u.toNat:Int)] w fun e w'=>∃A c,e = .returned (.tuple #[.slice A (Px.numB n 7).length c,.int .i64 0])∧HandS w' w.heap.size A (Px.numB n 7).length c (Px.putN n 7 u.toNat)∧Below w.heap.size w w':=x_put_yes n 7 u w (by omega) (by omega) hn
theorem x_put7'(n:Nat)(u:UInt8)(w:World)(L:List UInt8)(hL:L.length=n)(q:Nat)(hq:(Px.numB L.length 7).length=q)(hn:n<2147483648) :
  Calls Tryz.prog 70 #[.int .i64 (n:Int),.int .i64 7,.int .u8 (u.toNat:Int)] w fun e w'=>∃A c,e = .returned (.tuple #[.slice A q c,.int .i64 0])∧HandS w' w.heap.size A q c (Px.putN n 7 u.toNat)∧Below w.heap.size w w':=by
 subst hL
 subst hq
 exact x_put7 _ u w hn
theorem x_tell(J J2:FuncId)(u:UInt8)(s L:List UInt8)(w:World)(hE:Enters Tryz.prog J)
  (hJ : ∀w',Below w.heap.size w w'→Calls Tryz.prog J #[.string ⟨s.toArray⟩] w' fun e w''=>∃A c,e = .returned (.slice A L.length c)∧HandS w'' w'.heap.size A L.length c L∧Below w'.heap.size w' w'') (hL:L.length≤100000) :
  Calls Tryz.prog 97 #[.agg #[.int .u8 (u.toNat:Int),.func (.func J) #[] #[],.func (.func J2) #[] #[]],.string ⟨s.toArray⟩] w fun e w'=>∃A c,e = .returned (.slice A (Px.putN L.length 7 u.toNat++L).length c)∧HandS w' w.heap.size A (Px.putN L.length 7 u.toNat++L).length c (Px.putN L.length 7 u.toNat++L)∧Below w.heap.size w w':=by
 obtain⟨i0,hi,hz0,hz1,hz2⟩:=info_parts info_tu8
 have hinf:=Lib.hid (And.intro hi (And.intro hz0 (And.intro hz1 hz2)))
 have HJ:=Lib.hid hJ
 have HL:=Lib.hid hL
 have hul:=u.toNat_lt
 have hnl:=Px.numB_len (n:=L.length) (k:=7) (by omega)
 clear hi hz0 hz1 hz2 hJ
 obtain⟨m,hm⟩ : ∃m:Nat,L.length=m:=⟨_,rfl⟩
 obtain⟨q,hq⟩ : ∃q:Nat,(Px.numB L.length 7).length=q:=⟨_,rfl⟩
 have HM:=Lib.hid hm
 have HQ:=Lib.hid hq
 have hm2:m≤100000:=by omega
 have hq2:q≤6:=by omega
 clear hm hq hL hnl
 have K0:Hid (EnvF ((w.alloc (.cells #[.int .u8 (u.toNat:Int),.func (.func J) #[] #[],.func (.func J2) #[] #[]] 125)).alloc (.cells #[.slice none 0 0] 25)) [] [(w.heap.size+1,#[.slice none 0 0],25),(w.heap.size,#[.int .u8 (u.toNat:Int),.func (.func J) #[] #[],.func (.func J2) #[] #[]],125)]):=Lib.hid (((EnvF.nil w).boxg 125 #[.int .u8 (u.toNat:Int),.func (.func J) #[] #[],.func (.func J2) #[] #[]] (w.heap.size) (by simp)).boxg 25 #[.slice none 0 0] (w.heap.size+1) (by simp))
 have B0:Hid (Below w.heap.size w ((w.alloc (.cells #[.int .u8 (u.toNat:Int),.func (.func J) #[] #[],.func (.func J2) #[] #[]] 125)).alloc (.cells #[.slice none 0 0] 25))):=Lib.hid (((Below.refl _ w).alloc (by first | exact Nat.le_refl _ | (simp only[World.size_alloc];omega)) (.cells #[.int .u8 (u.toNat:Int),.func (.func J) #[] #[],.func (.func J2) #[] #[]] 125)).alloc (by first | exact Nat.le_refl _ | (simp only[World.size_alloc];omega)) (.cells #[.slice none 0 0] 25))
 refine(callsIn_wide (n:=6)).1 (callsIn_of_wp_marks Tryz.func97 rfl trivial ?_ rfl)
 refine wpIn_wide.2 ?_
 simp only[Tryz.ntmps97,List.size_toArray,List.length_cons,List.length_nil,Nat.reduceAdd,Nat.reduceSub,Array.replicate_succ,Array.replicate_zero,List.push_toArray,List.append_toArray,List.nil_append,List.cons_append]
 go_wp2
 refine wp_scope_forward 0 rfl ?_
 go_wp2_with (first
  | go_skip
  | (refine at_load 75 (.tmp 10) (by rfl) ?_;refine wpList_get (by rfl) 75 (.tmp 10) (by rfl) (w.heap.size) 1 (by rfl) 125 #[.int .u8 (u.toNat:Int),.func (.func J) #[] #[],.func (.func J2) #[] #[]] (.func (.func J) #[] #[]) _ (K0.out.row 1 rfl) (by rfl) Tryz.underlying75 (by rfl) ?_)
  | (refine at_callv (.tmp 11) #[.tmp 12] _ (by rfl) ?_;refine wpList_callv (by rfl) (.tmp 11) #[.tmp 12] _ (by rfl) J #[] (by rfl) hE #[.string ⟨s.toArray⟩] (by first | (simp[go_sem];done) | (simp[Act.eval];done)) (fun v w'=>∃A c,v = .slice A m c∧HandS w' ((w.alloc (.cells #[.int .u8 (u.toNat:Int),.func (.func J) #[] #[],.func (.func J2) #[] #[]] 125)).alloc (.cells #[.slice none 0 0] 25)).heap.size A m c L∧Below ((w.alloc (.cells #[.int .u8 (u.toNat:Int),.func (.func J) #[] #[],.func (.func J2) #[] #[]] 125)).alloc (.cells #[.slice none 0 0] 25)).heap.size ((w.alloc (.cells #[.int .u8 (u.toNat:Int),.func (.func J) #[] #[],.func (.func J2) #[] #[]] 125)).alloc (.cells #[.slice none 0 0] 25)) w') ((HJ.out ((w.alloc (.cells #[.int .u8 (u.toNat:Int),.func (.func J) #[] #[],.func (.func J2) #[] #[]] 125)).alloc (.cells #[.slice none 0 0] 25)) B0.out).mono fun e w' ⟨A,c,h1,h2,h3⟩=>⟨_,h1,A,c,by rw[HM.out],by rw[←HM.out];exact h2,h3⟩) ?_;rintro v w1 ⟨A1,c1,rfl,hh,hb⟩;have K1:Hid (EnvF w1 [bF A1 m L] [(w.heap.size+1,#[.slice none 0 0],25),(w.heap.size,#[.int .u8 (u.toNat:Int),.func (.func J) #[] #[],.func (.func J2) #[] #[]],125)]):=Lib.hid (K0.out.handS hb hh);have B1:Hid (Below w.heap.size w w1):=Lib.hid (below_step B0.out hb);clear hb hh K0 B0)
  | (refine at_load 5 (.tmp 17) (by rfl) ?_;refine wpList_get (by rfl) 5 (.tmp 17) (by rfl) (w.heap.size) 0 (by rfl) 125 #[.int .u8 (u.toNat:Int),.func (.func J) #[] #[],.func (.func J2) #[] #[]] (.int .u8 (u.toNat:Int)) _ (K1.out.row 1 rfl) (by rfl) Tryz.underlying5 (by rfl) ?_)
  | (go_at_call 70;(have hc:=(x_put7' m u w1 L HM.out q HQ.out (by omega));(with_reducible refine hc.mono ?_);clear hc);rintro e w2 ⟨A2,c2,rfl,hh,hb⟩;have K2:Hid (EnvF w2 [bF A2 q (Px.putN m 7 u.toNat),bF A1 m L] [(w.heap.size+1,#[.slice none 0 0],25),(w.heap.size,#[.int .u8 (u.toNat:Int),.func (.func J) #[] #[],.func (.func J2) #[] #[]],125)]):=Lib.hid (K1.out.handS hb hh);have B2:Hid (Below w.heap.size w w2):=Lib.hid (below_step B1.out hb);clear hb hh K1 B1)
  | (at_make;refine wpList_make_own _ rfl (.const (.int .i64 0)) (.tmp 28) 25 rfl w2.heap.size 5 i0 (.int .u8 0) 1 Tryz.underlying25 hinf.out.1 hinf.out.2.1 hinf.out.2.2.1 .i64 .i64 _ (q+m) rfl rfl rfl (by rw[hinf.out.2.2.2];omega) (by unfold maxLen;omega) (Nat.le_refl _) ?_;intro w3 hown hgr;have hb:Below w2.heap.size w2 w3:=(Below.refl _ w2).grown hgr (Nat.le_refl _) (fun k e=>by cases e);have HO3:Hid (OwnB w3 w2.heap.size 5 (.slice (some ⟨w2.heap.size,0,none⟩) 0 (q+m)) []):=Lib.hid hown;have hz3:w2.heap.size<w3.heap.size:=(World.ownsRow.lt hown _ rfl).2;have hgB:w.heap.size+1<w2.heap.size:=(Array.getElem?_eq_some_iff.1 (K2.out.row 0 rfl)).1;have HPA2:Hid (∀b o,0<q→A2=some ⟨b,o,none⟩→b<w2.heap.size∧b≠w.heap.size+1):=Lib.hid (fun b o h0 e=>by have h:=(K2.out.f (bF A2 q (Px.putN m 7 u.toNat)) (by simp)).2 b ⟨h0,o,e⟩;exact⟨h.1,h.2 (w.heap.size+1,_,_) (List.mem_cons_self ..)⟩);have HPA1:Hid (∀b o,0<m→A1=some ⟨b,o,none⟩→b<w2.heap.size∧b≠w.heap.size+1):=Lib.hid (fun b o h0 e=>by have h:=(K2.out.f (bF A1 m L) (by simp)).2 b ⟨h0,o,e⟩;exact⟨h.1,h.2 (w.heap.size+1,_,_) (List.mem_cons_self ..)⟩);have K3:Hid (EnvF w3 [bF A2 q (Px.putN m 7 u.toNat),bF A1 m L] [(w.heap.size+1,#[.slice none 0 0],25),(w.heap.size,#[.int .u8 (u.toNat:Int),.func (.func J) #[] #[],.func (.func J2) #[] #[]],125)]):=Lib.hid (K2.out.on hb);have B3:Hid (Below w.heap.size w w3):=Lib.hid (below_step B2.out hb);clear hown hgr hb K2 B2)
  | (refine at_store 25 (.tmp 5) (.tmp 29) (by rfl) ?_;refine wpList_put (by rfl) 25 (.tmp 5) (.tmp 29) (by rfl) (w.heap.size+1) 0 (.slice (some ⟨w2.heap.size,0,none⟩) 0 (q+m)) (by rfl) (by rfl) 25 #[.slice none 0 0] #[.slice (some ⟨w2.heap.size,0,none⟩) 0 (q+m)] (K3.out.row 0 rfl) (by simp[Value.cells]) (by kernel_rfl) infot_B (by kernel_rfl) ?_;intro w4 hrow hoth hz hbl;have K4:Hid (EnvF w4 [bF A2 q (Px.putN m 7 u.toNat),bF A1 m L] [(w.heap.size+1,#[.slice (some ⟨w2.heap.size,0,none⟩) 0 (q+m)],25),(w.heap.size,#[.int .u8 (u.toNat:Int),.func (.func J) #[] #[],.func (.func J2) #[] #[]],125)]):=Lib.hid (K3.out.turn 0 rfl hrow hoth hz);have B4:Hid (Below w.heap.size w w4):=Lib.hid (hbl _ _ (by omega) B3.out);have HO4:Hid (OwnB w4 w2.heap.size 5 (.slice (some ⟨w2.heap.size,0,none⟩) 0 (q+m)) []):=Lib.hid (HO3.out.sameBlock fun k e=>by have e2:some w2.heap.size=some k:=e;cases e2;exact hoth _ (by omega));have hz4:w4.heap.size=w3.heap.size:=hz;clear HO3 hrow hoth hz hbl K3 B3)
  | (go_at_call 115;refine(x_both _ _ _ _ _ _ _).mono ?_;rintro e w' ⟨rfl,rfl⟩))
 have KS:=(K4.out.boxg 25 #[.slice A2 q c2] w3.heap.size hz4).boxg 25 #[.slice A1 m c1] (w3.heap.size+1) (by rw[World.size_alloc,hz4])
 have BS:=(B4.out.alloc B4.out.size (.cells #[.slice A2 q c2] 25)).alloc (by rw[World.size_alloc];have:=B4.out.size;omega) (.cells #[.slice A1 m c1] 25)
 have ho0:OwnB ((w4.alloc (.cells #[.slice A2 q c2] 25)).alloc (.cells #[.slice A1 m c1] 25)) w2.heap.size 5 (.slice (some ⟨w2.heap.size,0,none⟩) 0 (q+m)) []:=HO4.out.kept (((Below.refl _ w4).alloc (Nat.le_refl _) _).alloc (by simp) _)
 have hzs:((w4.alloc (.cells #[.slice A2 q c2] 25)).alloc (.cells #[.slice A1 m c1] 25)).heap.size=w3.heap.size+2:=by simp[hz4]
 generalize ((w4.alloc (.cells #[.slice A2 q c2] 25)).alloc (.cells #[.slice A1 m c1] 25))=Ws at *
 have hr0:=KS.row 2 rfl
 have hq1:=cells1_row (KS.row 1 rfl)
 have hq2:=cells1_row (KS.row 0 rfl)
 have hA2:=KS.bs (A:=A2) (n:=q) (xs:=Px.putN m 7 u.toNat) (by simp)
 have hA1:=KS.bs (A:=A1) (n:=m) (xs:=L) (by simp)
 have hwz:w.heap.size≤w2.heap.size:=by omega
 refine(wpIn_wide (n:=6)).1 ?_
 refine wpIn_rangeFunc_state rfl (by omega) (gf:=131) (lb:=#[.pointer (some ⟨w3.heap.size,0,none⟩),.pointer (some ⟨w3.heap.size+1,0,none⟩)]) rfl trivial (enters_of Tryz.func131 (by kernel_rfl) rfl)
  (both_stops 5 (by omega) w3.heap.size (w3.heap.size+1) q c2 m c1 A2 A1 (Px.putN m 7 u.toNat) L (fun j=>j<w2.heap.size∧j≠w.heap.size+1) Ws (by omega) (by omega) (fun h0 b o e=>HPA2.out b o h0 e) (fun h0 b o e=>HPA1.out b o h0 e) (by omega) (by omega) hq1 hq2 hA2 hA1)
  (fun h k=>KeepZ.trans h k) (fun W l o o' _ h hc _=>⟨KeepC.put W l o o' h hc,(grownBy_putObj' W l o').size⟩) (fun _=>rfl) (fun A B l o hs h hc=>hs.elim)
  (GatherM w (w.heap.size+1) w2.heap.size Ws.heap.size 25 5) (gatherM_own (by omega)) (fun pre A B h hs=>hs.elim) ⟨⟨_,hr0,ho0,fun k e=>by cases e;exact .inl rfl⟩,BS,Nat.le_refl _⟩
  (fun pre x a' W=>a'={ tmps:=#[.agg #[.int .u8 (u.toNat:Int),.func (.func J) #[] #[],.func (.func J2) #[] #[]],.string ⟨s.toArray⟩,.pointer (some ⟨w.heap.size,0,none⟩),undef,.slice none 0 0,.pointer (some ⟨w.heap.size+1,0,none⟩),.slice A1 m c1,.slice A2 q c2,.int .i64 0,.int .u8 (x.toNat:Int),.pointer (some ⟨w.heap.size,1,none⟩),.func (.func J) #[] #[],.string ⟨s.toArray⟩,.slice A1 m c1,.tuple #[.slice A2 q c2,.int .i64 0],.slice A1 m c1,.int .i64 (m:Int),.pointer (some ⟨w.heap.size,0,none⟩),.int .u8 (u.toNat:Int),.tuple #[.slice A2 q c2,.int .i64 0],.slice A2 q c2,.int .i64 0,.int .i64 0,.bool false,.slice A2 q c2,.int .i64 (q:Int),.slice A1 m c1,.int .i64 (m:Int),.int .i64 ((q:Int)+(m:Int)),.slice (some ⟨w2.heap.size,0,none⟩) 0 (q+m),.slice A2 q c2,.slice A1 m c1,.func (.func 131) #[] #[.pointer (some ⟨w3.heap.size,0,none⟩),.pointer (some ⟨w3.heap.size+1,0,none⟩)],.int .u8 (x.toNat:Int),undef,undef,undef,undef,undef],defers:=[] }) (fun pre x a' _ _ _ _ h _ _=>h)
  ?assign ?body ?done
 case assign=>
  intro l pre x W K hI hV hK
  have HK:=Lib.hid hK
  have HI:=Lib.hid hI
  clear hK hI hV
  gi_wp2
  exact HK.out _ _ (KeepsFrom.refl _ _) (KeepZ.refl _ _) HI.out rfl
 case body=>
  rintro l pre x a' W hl0 hI rfl hlen2
  obtain⟨⟨v,hrow,hown,hob⟩,hbel,hsz⟩:=hI
  have c0:=cells1_row hrow
  have HROW:=Lib.hid hrow
  have HOWN:=Lib.hid hown
  have HOB:=Lib.hid hob
  have HOWN2:=Lib.hid (hown.alloc (.cells #[.int .u8 (x.toNat:Int)] 5))
  have hlW : ∀j u,([x].map bv)[j]? = some u→(W.alloc (.cells #[.int .u8 (x.toNat:Int)] 5)).cell? ((⟨W.heap.size,0,none⟩:Addr).add j)=some u:=by
   intro j y hy
   have hj:j=0:=by
    have:=(List.getElem?_eq_some_iff.1 hy).1
    simp at this
    omega
   subst hj
   simp only[List.map_cons,List.map_nil,List.getElem?_cons_zero,Option.some.injEq] at hy
   subst hy
   simp[go_sem,bv]
  have HLW:=Lib.hid hlW
  have HBEL:=Lib.hid hbel
  clear hrow hown hob hlW hbel hr0 hq1 hq2 KS BS ho0 hA1 hA2
  gi_wp2_with (gi_at_builtin;refine wpListIn_append_full _ rfl (.tmp 34) (.tmp 36) 25 rfl w2.heap.size 5 i0 Tryz.underlying25 hinf.out.1 hinf.out.2.1 hinf.out.2.2.1 hinf.out.2.2.2 v pre rfl HOWN2.out ⟨W.heap.size,0,none⟩ 1 1 [x] rfl HLW.out rfl (by omega) (by simp;omega) ?_;intro v4 w5 hown4 hb4 hg4 hv4;have HO5:=Lib.hid hown4;have HG4:=Lib.hid hg4;have HV4:=Lib.hid hv4;have hr4:w5.heap[w.heap.size+1]? = some (.cells #[v] 25):=(hg4.block (w.heap.size+1) (by simp;omega) (fun e=>by have:=HOB.out _ e.symm;omega)).trans ((Below.heap_alloc _ _ _ (by omega)).trans HROW.out);have c4:=cells1_row hr4;have f4:=frozen_of_row w5 _ 0 _ _ hr4;obtain⟨A6,c6,rfl,hh6⟩:=hown4.handS (n:=pre.length+1) (by simp);clear hown4 hb4 hg4 hv4 hr4 hh6)
  exact gatherM_round (KeepZ _) (fun j=>j<w2.heap.size∧j≠w.heap.size+1) (fun A B h h2=>⟨h,h2⟩) (by omega) (by omega) (by omega) (by omega) hsz (fun j hj=>by omega) HROW.out HOWN.out HOB.out HBEL.out HG4.out HO5.out HV4.out
 case done=>
  rintro D ys W hD hput hI hK
  subst hput
  obtain⟨⟨v,hrow,hown,hob⟩,hbel,hsz⟩:=hI
  obtain⟨A3,c3,rfl,hh⟩:=hown.handS (n:=(Px.putN m 7 u.toNat++L).length) rfl
  have c0:=cells1_row hrow
  have HK:=Lib.hid hK
  have HFIN:=Lib.hid (handS_putD hh hK)
  have HBF:=Lib.hid (hbel.trans (belowK_b (w:=w) (Nat.le_refl _) W D _ (.deferred none) (by omega) hK rfl rfl))
  clear hrow hown hob hbel hh hK hr0 hq1 hq2 KS BS ho0 hA1 hA2
  go_wp2
  rw[jump_ret]
  have hlp:(Px.putN m 7 u.toNat++L).length=(Px.putN m 7 u.toNat).length+L.length:=List.length_append
  have hmm:=HM.out
  subst hmm
  exact⟨by simp,.inl ⟨_,_,rfl,run_takeDeferred HK.out,⟨_,results_tmp rfl _ _ _,A3,c3,by first | rfl | (rw[hlp];rfl),⟨HFIN.out.1,FreshS.less HFIN.out.2.1 (by omega),HFIN.out.2.2⟩,HBF.out⟩⟩⟩
end Go.Proofs.YtahiajeggbpogaaGreatDoor
namespace Go.Proofs.YtahiajeggbpogaaGreatDoor
open Go.RowKit Hf Oct Tx Go.Shelf
set_option linter.unusedVariables false
set_option linter.unusedSimpArgs false
theorem x_tellP(s:List UInt8)(w:World)(hn:s.length≤10000) :
  Calls Tryz.prog 97 #[.agg #[.int .u8 0,.func (.func 116) #[] #[],.func (.func 117) #[] #[]],.string ⟨s.toArray⟩] w fun e w'=>∃A c,e = .returned (.slice A (plB s).length c)∧HandS w' w.heap.size A (plB s).length c (plB s)∧Below w.heap.size w w':=
 x_tell 116 117 0 s s w (enters_of Tryz.func116 (by kernel_rfl) rfl) (fun w' _=>x_lay1 s w') (by omega)
theorem x_tellB(s:List UInt8)(w:World)(hR:Rws w)(hn:s.length≤10000) :
  Calls Tryz.prog 97 #[.agg #[.int .u8 128,.func (.func 111) #[] #[],.func (.func 113) #[] #[]],.string ⟨s.toArray⟩] w fun e w'=>∃A c,e = .returned (.slice A (biB s).length c)∧HandS w' w.heap.size A (biB s).length c (biB s)∧Below w.heap.size w w':=
 x_tell 111 113 128 s (hO s) w (enters_of Tryz.func111 (by kernel_rfl) rfl) (fun w' hb=>x_lay2 s w' (hR.on hb) hn) (by have:=hO_le s;omega)
theorem x_plainU(w:World):Calls Tryz.prog 98 #[] w fun e w'=>e = .returned (.agg #[.int .u8 0,.func (.func 116) #[] #[],.func (.func 117) #[] #[]])∧Below w.heap.size w w':=x_plain w
theorem x_bitsU(w:World):Calls Tryz.prog 96 #[] w fun e w'=>e = .returned (.agg #[.int .u8 128,.func (.func 111) #[] #[],.func (.func 113) #[] #[]])∧Below w.heap.size w w':=x_inBits w
theorem x_Plain(s:List UInt8)(w:World)(hn:s.length≤10000) :
  Calls Tryz.prog 76 #[.string ⟨s.toArray⟩] w fun e w'=>∃A c,e = .returned (.slice A (plB s).length c)∧HandS w' w.heap.size A (plB s).length c (plB s)∧Below w.heap.size w w':=by
 have HN:=Lib.hid hn
 clear hn
 go_enter Tryz.func76,Tryz.ntmps76
 go_wp2_with (first
  | (go_at_call 98;(have hc:=(x_plainU w);(with_reducible refine hc.mono ?_);clear hc);rintro e w1 ⟨rfl,hb⟩;have B1:=Lib.hid hb;clear hb)
  | (go_at_call 97;(have hc:=(x_tellP s w1 HN.out);(with_reducible refine hc.mono ?_);clear hc);rintro e w2 ⟨A2,c2,rfl,hh,hb⟩;have B2:=Lib.hid (below_step B1.out hb);have H2:Hid (HandS w2 w.heap.size A2 (plB s).length c2 (plB s)):=Lib.hid ⟨hh.1,FreshS.less hh.2.1 B1.out.size,hh.2.2⟩;clear hb hh))
 go_ret
 exact⟨A2,c2,rfl,H2.out,B2.out⟩
theorem x_Bits(s:List UInt8)(w:World)(hR:Rws w)(hn:s.length≤10000) :
  Calls Tryz.prog 75 #[.string ⟨s.toArray⟩] w fun e w'=>∃A c,e = .returned (.slice A (biB s).length c)∧HandS w' w.heap.size A (biB s).length c (biB s)∧Below w.heap.size w w':=by
 have HN:=Lib.hid hn
 have HR:=Lib.hid hR
 clear hn hR
 go_enter Tryz.func75,Tryz.ntmps75
 go_wp2_with (first
  | (go_at_call 96;(have hc:=(x_bitsU w);(with_reducible refine hc.mono ?_);clear hc);rintro e w1 ⟨rfl,hb⟩;have B1:=Lib.hid hb;clear hb)
  | (go_at_call 97;(have hc:=(x_tellB s w1 (HR.out.on B1.out) HN.out);(with_reducible refine hc.mono ?_);clear hc);rintro e w2 ⟨A2,c2,rfl,hh,hb⟩;have B2:=Lib.hid (below_step B1.out hb);have H2:Hid (HandS w2 w.heap.size A2 (biB s).length c2 (biB s)):=Lib.hid ⟨hh.1,FreshS.less hh.2.1 B1.out.size,hh.2.2⟩;clear hb hh))
 go_ret
 exact⟨A2,c2,rfl,H2.out,B2.out⟩
theorem x_Best(s:List UInt8)(w:World)(hR:Rws w)(hn:s.length≤10000) :
  Calls Tryz.prog 49 #[.string ⟨s.toArray⟩] w fun e w'=>∃A c,e = .returned (.slice A (beB s).length c)∧HandS w' w.heap.size A (beB s).length c (beB s)∧Below w.heap.size w w':=by
 obtain⟨c0,w0,hr,hh,hb⟩:=Tx.conv_str w s
 have hS:=h_shorter (some ⟨w.heap.size,0,none⟩) s.length c0 s w0 (hR.on hb) hh.1 hn
 have HN:=Lib.hid hn
 have HR:=Lib.hid hR
 have HB0:=Lib.hid hb
 clear hn hR hh hb
 by_cases h:((bl s).length+7) / 8<s.length
 ·rw[decide_eq_true h] at hS
  have HS:=Lib.hid hS
  rw[show beB s=biB s from if_pos h]
  clear hS h
  go_enter Tryz.func49,Tryz.ntmps49
  go_wp2_with (first
   | (go_at_call 74;(with_reducible refine HS.out.mono ?_);rintro e w1 ⟨rfl,hb⟩;have B1:=Lib.hid (below_step HB0.out hb);clear hb)
   | (go_at_call 75;(have hc:=(x_Bits s w1 (HR.out.on B1.out) HN.out);(with_reducible refine hc.mono ?_);clear hc);rintro e w2 ⟨A2,c2,rfl,hh,hb⟩;have B2:=Lib.hid (below_step B1.out hb);have H2:Hid (HandS w2 w.heap.size A2 (biB s).length c2 (biB s)):=Lib.hid ⟨hh.1,FreshS.less hh.2.1 B1.out.size,hh.2.2⟩;clear hb hh))
  go_ret
  exact⟨A2,c2,rfl,H2.out,B2.out⟩
 ·rw[decide_eq_false h] at hS
  have HS:=Lib.hid hS
  rw[show beB s=plB s from if_neg h]
  clear hS h
  go_enter Tryz.func49,Tryz.ntmps49
  go_wp2_with (first
   | (go_at_call 74;(with_reducible refine HS.out.mono ?_);rintro e w1 ⟨rfl,hb⟩;have B1:=Lib.hid (below_step HB0.out hb);clear hb)
   | (go_at_call 76;(have hc:=(x_Plain s w1 HN.out);(with_reducible refine hc.mono ?_);clear hc);rintro e w2 ⟨A2,c2,rfl,hh,hb⟩;have B2:=Lib.hid (below_step B1.out hb);have H2:Hid (HandS w2 w.heap.size A2 (plB s).length c2 (plB s)):=Lib.hid ⟨hh.1,FreshS.less hh.2.1 B1.out.size,hh.2.2⟩;clear hb hh))
  go_ret
  exact⟨A2,c2,rfl,H2.out,B2.out⟩
end Go.Proofs.YtahiajeggbpogaaGreatDoor
namespace Go.Proofs.YtahiajeggbpogaaGreatDoor
open Go.RowKit Hf Oct Tx Go.Shelf
set_option linter.unusedVariables false
set_option linter.unusedSimpArgs false
theorem Tx.rT_pos{xs:List UInt8}(h:cT xs=0) : ∃x ys,xs=x::ys:=by
 cases xs with
 | nil=>cases h
 | cons x ys=>exact⟨x,ys,rfl⟩
theorem Tx.rT_le(xs:List UInt8):(rT xs).length≤xs.length:=by rw[rT_eq];split<;>simp
theorem Tx.cutO{w:World}{B n c k:Nat}{A:Option Addr}{xs:List UInt8}(h:Bs w B A n xs)(hk:k≤n)(hc:n≤c):Bs w B (if c=k then A else A.map fun x=>x.add k) (n-k) (xs.drop k):=by
 by_cases h0:n-k=0
 ·rw[h0,List.drop_eq_nil_of_le (by rw[h.1];omega)]
  exact Bs.empty _ _ _
 ·obtain⟨b,o,rfl,_,_⟩:=h.2 (by omega)
  rw[if_neg (by omega)]
  simp only[Option.map_some,Addr.add_lit]
  exact h.drop hk
theorem Tx.cut_none{c k:Nat}{A A3:Option Addr}(h:(if c=k then A else A.map fun x=>x.add k)=A3)(hN:A=none→c=0):A3=none→c-k=0:=fun e=>by
 subst e
 split at h
 ·omega
 ·have:=hN (by simpa using h);omega
end Go.Proofs.YtahiajeggbpogaaGreatDoor
