import Derived.Test.YtahiajeggbpogaaGreatDoorUpLa
import Derived.Test.YtahiajeggbpogaaGreatDoorPkA
namespace Go.Proofs.YtahiajeggbpogaaGreatDoor.Pk
open Go.RowKit Px Tx Tb Up
set_option linter.unusedVariables false
set_option linter.unusedSimpArgs false
theorem isF_at{xs:List Fd}{f:Fd}{i:Nat}(h:ixOf (isF f) (stat++xs)=i+1):atO xs ((i+1:Nat):Int)=some f:=by
 obtain⟨x,hx,hp,_⟩:=ixOf_at h
 unfold isF at hp
 obtain rfl:=of_decide_eq_true hp
 unfold atO
 rw[if_pos (by omega),show(((i+1:Nat):Int)-1).toNat=i by omega]
 exact hx
theorem isN_at{xs:List Fd}{f:Fd}{i:Nat}(h:ixOf (isN f) (stat++xs)=i+1) : ∃x,atO xs ((i+1:Nat):Int)=some x∧x.1=f.1:=by
 obtain⟨x,hx,hp,_⟩:=ixOf_at h
 unfold isN at hp
 refine⟨x,?_,of_decide_eq_true hp⟩
 unfold atO
 rw[if_pos (by omega),show(((i+1:Nat):Int)-1).toNat=i by omega]
 exact hx
theorem find_yes{xs:List Fd}{f:Fd}(h:findB xs f=true):atO xs ((findI xs f:Nat):Int)=some f:=by
 unfold findB at h
 have h0:ixOf (isF f) (stat++xs)≠0:=by simpa using h
 unfold findI
 rw[if_neg h0]
 obtain⟨i,hi⟩:=Nat.exists_eq_succ_of_ne_zero h0
 rw[hi]
 exact isF_at hi
theorem find_no{xs:List Fd}{f:Fd}(h:findB xs f=false)(hn:findI xs f≠0) : ∃x,atO xs ((findI xs f:Nat):Int)=some x∧x.1=f.1:=by
 unfold findB at h
 have h0:ixOf (isF f) (stat++xs)=0:=by simpa using h
 unfold findI at hn ⊢
 rw[if_pos h0] at hn ⊢
 obtain⟨i,hi⟩:=Nat.exists_eq_succ_of_ne_zero hn
 rw[hi]
 exact isN_at hi
theorem at_some{xs:List Fd}{i:Int}{x:Fd}(h:atO xs i=some x):atE xs i=0∧atV xs i=x:=by
 unfold atE atV
 rw[h]
 exact⟨rfl,rfl⟩
theorem block_nm2{M most:Int}{xs:List Fd}{i:Nat}{b:List UInt8}(way:Int)(hi:i<2 ^ 31)(h1i:1≤i)(hr:rightB M xs=true)(h0:0≤most)(h1:most≤4096)(hb:b.length≤100000)(he:atE xs i=0) :
  bE M most xs (nmL i b way)=0∧bAll M most xs (nmL i b way)=[((atV xs i).1,st b)]∧bM M most xs (nmL i b way)=M∧bX M most xs (nmL i b way)=(if way=1 then keep M (((atV xs i).1,st b)::xs) else xs)∧nmL i b way≠[]∧∀ys,kk (hd (nmL i b way++ys))≠3:=by
 obtain⟨hw1,hw2,hw3⟩:=way_bd way
 have hE:putE (i:Int) (wR way)=0:=putE_of ⟨hw3,hw1⟩ hi
 have hl:nmL i b way=putN i (wR way) (wU way)++(beB b++[]):=by
  unfold nmL
  rw[if_neg (by omega),if_pos hE,putL_of ⟨hw3,hw1⟩ hi,List.append_nil]
 rw[hl]
 obtain⟨m1,m2⟩:=way_mark way i (beB b++[])
 obtain⟨n1,n2,n3⟩:=num_back (n:=i) hw1 hw2 hi (beB b++[])
 obtain⟨o1,o2,o3⟩:=own_index (xs:=xs) (b:=b) (ys:=[]) (v:=i) (by omega) hb he
 obtain⟨q1,q2,q3⟩:=own_at (s:=⟨M,xs,putN i (wR way) (wU way)++(beB b++[])⟩) m2 m1 (by split<;>simp) n1 n2 n3 o1
 have hq1:qE ⟨M,xs,putN i (wR way) (wU way)++(beB b++[])⟩=0:=by
  rw[q1]
  split
  ·unfold addE;simp only;rw[hr];rfl
  ·rfl
 obtain⟨b1,b2,b3,b4⟩:=block_one (most:=most) hr h0 h1 (by rw[m1];split<;>decide) (put_ne _ _ _ _) hq1 (by rw[q3,o3];split<;>rfl)
 rw[q2] at b2
 simp only[o2] at b2
 rw[q3] at b3 b4
 refine⟨b1,b2,b3.trans ?_,b4.trans ?_,put_ne _ _ _ _,fun ys=>?_⟩
 ·split
  ·unfold addM;simp only;rw[hr];rfl
  ·rfl
 ·simp only[o2]
  by_cases h:way=1
  ·rw[if_pos h,if_pos h,if_pos rfl]
   unfold addL
   simp only
   rw[hr]
   rfl
  ·rw[if_neg h,if_neg h,if_neg (by omega)]
 ·rw[List.append_assoc,(way_mark way i _).1]
  split<;>decide
theorem one_field{M most:Int}{xs:List Fd}{f:Fd}(hr:rightB M xs=true)(h0:0≤most)(h1:most≤4096)(hz:sz f≤100000) :
  bE M most xs (fB M xs f)=0∧bAll M most xs (fB M xs f)=[f]∧bM M most xs (fB M xs f)=M∧bX M most xs (fB M xs f)=fX M xs f∧fB M xs f≠[]∧∀ys,kk (hd (fB M xs f++ys))≠3:=by
 obtain⟨a,b,rfl⟩:=fd_form f
 have hs:=la_sz ((⟨a.toArray⟩,⟨b.toArray⟩):Fd)
 rw[la_of,lb_of] at hs
 have hi:=Tb.findI_le xs (⟨a.toArray⟩,⟨b.toArray⟩)
 have hR:=okB_of hr
 have hxl:=full_len xs
 unfold fB fX
 by_cases hf:findB xs (⟨a.toArray⟩,⟨b.toArray⟩)=true
 ·rw[if_pos hf,if_pos hf]
  obtain⟨e1,e2⟩:=at_some (find_yes hf)
  rw[show putL (findI xs (⟨a.toArray⟩,⟨b.toArray⟩):Int) (7:Nat) 128=putN (findI xs (⟨a.toArray⟩,⟨b.toArray⟩)) 7 128 from putL_of (k:=7) (by omega) (by omega)]
  obtain⟨g1,g2⟩:=block_idx (M:=M) (most:=most) (xs:=xs) (i:=findI xs (⟨a.toArray⟩,⟨b.toArray⟩)) (by omega) hr h0 h1
  obtain⟨g3,g4,g5⟩:=g2 e1
  rw[e2] at g3
  refine⟨g1.trans e1,g3,g4,g5,?_,fun ys=>?_⟩
  ·have:=put_ne (findI xs (⟨a.toArray⟩,⟨b.toArray⟩)) 7 128 []
   rwa [List.append_nil] at this
  ·rw[(mark_1 _ ys).1];decide
 ·have hf':findB xs (⟨a.toArray⟩,⟨b.toArray⟩)=false:=by simpa using hf
  rw[if_neg hf,if_neg hf]
  unfold Pk.oL
  rw[la_of,lb_of]
  by_cases h:findI xs (⟨a.toArray⟩,⟨b.toArray⟩)=0
  ·rw[if_pos h]
   obtain⟨g1,g2,g3,g4⟩:=block_fld (M:=M) (most:=most) (xs:=xs) (a:=a) (b:=b) (wy M (⟨a.toArray⟩,⟨b.toArray⟩)) hr h0 h1 (by omega) (by omega)
   have hw:=way_bd (wy M (⟨a.toArray⟩,⟨b.toArray⟩))
   have hl:fldL a b (wy M (⟨a.toArray⟩,⟨b.toArray⟩))=putN 0 (wR (wy M (⟨a.toArray⟩,⟨b.toArray⟩))) (wU (wy M (⟨a.toArray⟩,⟨b.toArray⟩)))++(beB a++beB b):=by
    unfold fldL
    rw[show putL 0 (wR (wy M (⟨a.toArray⟩,⟨b.toArray⟩))) (wU (wy M (⟨a.toArray⟩,⟨b.toArray⟩)))=putN 0 (wR (wy M (⟨a.toArray⟩,⟨b.toArray⟩))) (wU (wy M (⟨a.toArray⟩,⟨b.toArray⟩))) from putL_of (n:=0) ⟨hw.2.2,hw.1⟩ (by omega),List.append_assoc]
   refine⟨g1,g2,g3,g4.trans ?_,by rw[hl];exact put_ne _ _ _ _,fun ys=>?_⟩
   ·unfold addL
    rw[hr]
    rfl
   ·rw[hl,List.append_assoc,(way_mark _ 0 _).1]
    split<;>decide
  ·rw[if_neg h]
   obtain⟨x,hx,hx1⟩:=find_no hf' h
   obtain⟨e1,e2⟩:=at_some hx
   obtain⟨g1,g2,g3,g4,g5,g6⟩:=block_nm2 (M:=M) (most:=most) (xs:=xs) (i:=findI xs (⟨a.toArray⟩,⟨b.toArray⟩)) (b:=b) (wy M (⟨a.toArray⟩,⟨b.toArray⟩)) (by omega) (by omega) hr h0 h1 (by omega) e1
   rw[e2,hx1] at g2 g4
   exact⟨g1,g2,g3,g4,g5,g6⟩
theorem back_all{M most:Int}(h0:0≤most)(h1:most≤4096) : ∀(ls xs:List Fd),rightB M xs=true→full ls≤100000→
  bE M most xs (kB M xs ls)=0∧bAll M most xs (kB M xs ls)=ls∧bM M most xs (kB M xs ls)=M∧bX M most xs (kB M xs ls)=kX M xs ls∧(kB M xs ls=[]∨kk (hd (kB M xs ls))≠3)
 | [],xs,hr,_=>by
  have hn:bN most ⟨M,xs,[]⟩=(0,[],⟨M,xs,[]⟩):=rfl
  have hE:bE M most xs []=0:=by unfold bE;rw[if_neg (by rw[okA_of hr h0 h1];exact Bool.noConfusion),if_neg (by show ¬((0:Int)≠0);omega),hn]
  refine⟨hE,rfl,?_,?_,.inl rfl⟩
  ·unfold bM;rw[show kB M xs []=[] from rfl,if_pos hE,hn]
  ·unfold bX;rw[show kB M xs []=[] from rfl,if_pos hE,hn];rfl
 | f::l,xs,hr,hz=>by
  have hz':sz f+full l≤100000:=hz
  obtain⟨a1,a2,a3,a4,a5,a6⟩:=one_field (most:=most) hr h0 h1 (f:=f) (by omega)
  have hr2:=fX_right hr f
  obtain⟨b1,b2,b3,b4,b5⟩:=back_all h0 h1 l (fX M xs f) hr2 (by omega)
  show bE M most xs (fB M xs f++kB M (fX M xs f) l)=0∧bAll M most xs (fB M xs f++kB M (fX M xs f) l)=f::l∧bM M most xs (fB M xs f++kB M (fX M xs f) l)=M∧bX M most xs (fB M xs f++kB M (fX M xs f) l)=kX M (fX M xs f) l∧(fB M xs f++kB M (fX M xs f) l=[]∨kk (hd (fB M xs f++kB M (fX M xs f) l))≠3)
  obtain⟨p1,p2,p3⟩:=parts (a:=fB M xs f) (b:=kB M (fX M xs f) l) (okA_of hr h0 h1) a1 b5 (by rw[a3,a4];exact okA_of hr2 h0 h1)
  rw[a3,a4] at p1 p2 p3
  have hE:=p1.trans b1
  obtain⟨p4,p5⟩:=p3 hE
  exact⟨hE,by rw[p2,a2,b2];rfl,p4.trans b3,p5.trans b4,.inr (a6 _)⟩
theorem bk_back{M most:Int}{xs ls:List Fd}(hr:rightB M xs=true)(h0:0≤most)(h1:most≤4096)(hz:full ls≤100000) :
  bE M most xs (kB M xs ls)=0∧bL M most xs (kB M xs ls)=keep 2000 ls∧bG M most xs (kB M xs ls)=decide (2000<full ls)∧bM M most xs (kB M xs ls)=M∧bX M most xs (kB M xs ls)=kX M xs ls:=by
 obtain⟨b1,b2,b3,b4,_⟩:=back_all h0 h1 ls xs hr hz
 obtain⟨g1,g2⟩:=bG_of b1 b2
 exact⟨b1,g1,g2,b3,b4⟩
theorem bk_sized{M most:Int}{xs ls:List Fd}(hr:rightB M xs=true)(h0:0≤most)(h1:most≤4096)(hz:full ls≤100000) :
  bE M most xs (putL most (5:Nat) 32++kB most (keep most xs) ls)=0∧bL M most xs (putL most (5:Nat) 32++kB most (keep most xs) ls)=keep 2000 ls∧bG M most xs (putL most (5:Nat) 32++kB most (keep most xs) ls)=decide (2000<full ls)∧bM M most xs (putL most (5:Nat) 32++kB most (keep most xs) ls)=most∧bX M most xs (putL most (5:Nat) 32++kB most (keep most xs) ls)=kX most (keep most xs) ls:=by
 obtain⟨n,rfl⟩ : ∃n:Nat,most=n:=⟨most.toNat,by omega⟩
 have hp:putL (n:Int) (5:Nat) 32=putN n 5 32:=putL_of (k:=5) (by omega) (by omega)
 rw[hp]
 obtain⟨f,hf⟩ : ∃f,(putN n 5 32).length=f+1:=⟨(putN n 5 32).length-1,by have:=put_pos n 5 32;omega⟩
 have ho:=okA_of (most:=(n:Int)) hr h0 h1
 obtain⟨r1,r2,r3,r4⟩:=res_ok (m:=(n:Int)) hr h0 h1
 have hzz:bZ n ⟨M,xs,putN n 5 32⟩=(0,⟨n,keep n xs,[]⟩):=by
  unfold bZ
  simp only[hf]
  obtain⟨e1,e2⟩:=zs_size (M:=M) (most:=(n:Int)) (xs:=xs) (f:=f) (n:=n) (by omega) []
  rw[List.append_nil] at e1 e2
  rw[e2 (by omega) r1,r2,r3,zs_nil]
 have hn:bN n ⟨M,xs,putN n 5 32⟩=(0,[],⟨n,keep n xs,[]⟩):=by
  unfold bN
  rw[hzz]
  exact rn_end 0 _ _ (by simp) (fun j hj=>absurd hj (by omega)) rfl
 have hE:bE M n xs (putN n 5 32)=0:=by unfold bE;rw[if_neg (by rw[ho];exact Bool.noConfusion),hzz,if_neg (by simp),hn]
 have eM:bM M n xs (putN n 5 32)=n:=by unfold bM;rw[if_pos hE,hn]
 have eX:bX M n xs (putN n 5 32)=keep n xs:=by unfold bX;rw[if_pos hE,hn]
 have eA:bAll M n xs (putN n 5 32)=[]:=by unfold bAll;rw[hn]
 obtain⟨b1,b2,b3,b4,b5⟩:=back_all h0 h1 ls (keep n xs) r4 hz
 obtain⟨p1,p2,p3⟩:=parts (a:=putN n 5 32) (b:=kB n (keep n xs) ls) ho hE b5 (by rw[eM,eX];exact okA_of r4 h0 h1)
 rw[eM,eX] at p1 p2 p3
 have hE2:=p1.trans b1
 obtain⟨p4,p5⟩:=p3 hE2
 rw[eA,b2,List.nil_append] at p2
 obtain⟨g1,g2⟩:=bG_of hE2 p2
 exact⟨hE2,g1,g2,p4.trans b3,p5.trans b4⟩
theorem fit_more{ls:List Fd}{j:Nat}(hj:j<ls.length):(full (ls.take (j+1)):Int)≤2000↔j+1≤fit 2000 ls:=fit_iff (by omega) hj
theorem fit_long(ls:List Fd):decide ((fit 2000 ls:Int)<(ls.length:Int))=decide (2000<full ls):=by
 have h:=fit_iff (M:=2000) (xs:=ls) (j:=ls.length) (by omega) (Nat.le_refl _)
 have h2:=fit_le 2000 ls
 rw[List.take_length] at h
 by_cases g:2000<full ls
 ·rw[decide_eq_true g,decide_eq_true (by omega)]
 ·rw[decide_eq_false g,decide_eq_false (by omega)]
end Go.Proofs.YtahiajeggbpogaaGreatDoor.Pk
