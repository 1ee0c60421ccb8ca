import Derived.Test.YtahiajeggbpogaaGreatDoorUpY
import Derived.Test.YtahiajeggbpogaaGreatDoorUpR
namespace Go.Proofs.YtahiajeggbpogaaGreatDoor.Up
open Go.RowKit Px Tx Tb
set_option linter.unusedVariables false
set_option linter.unusedSimpArgs false
theorem own_at{s:Sta}{R v K:Nat}{ys:List UInt8}(hkb:kb (hd s.ls)=R)(hkk:kk (hd s.ls)=K)(hK:K=2∨K=4)(h1:nC s.ls R=0)(h2:nV s.ls R=v)(h3:nR s.ls R=ys)(he:owE s.xs ys v=0) :
  qE s=(if K=2 then addE s.M s.xs else 0)∧qF s=owF s.xs ys v∧qS s=(if K=2 then ⟨addM s.M s.xs,addL s.M s.xs (owF s.xs ys v),owR s.xs ys v⟩ else ⟨s.M,s.xs,owR s.xs ys v⟩):=by
 have e1:qC s=0:=by unfold qC;rw[hkb,h1]
 have e2:qV s=v:=by unfold qV;rw[hkb,h2]
 have e3:qR s=ys:=by unfold qR;rw[hkb,h3]
 unfold qE qF qS
 rw[e1,e2,e3,hkk,he]
 rcases hK with rfl | rfl<;>simp
theorem own_text{xs:List Fd}{a b ys:List UInt8}(ha:a.length≤100000)(hb:b.length≤100000) :
  owE xs (beB a++(beB b++ys)) 0=0∧owF xs (beB a++(beB b++ys)) 0=(st a,st b)∧owR xs (beB a++(beB b++ys)) 0=ys:=by
 obtain⟨h1,h2,h3⟩:=be_back ha (beB b++ys)
 obtain⟨h4,h5,h6⟩:=be_back hb ys
 unfold owE owF owR
 rw[if_pos rfl,if_pos rfl,if_pos rfl,if_pos h1,if_pos h1,if_pos h1,h2,h3,h4,h5,h6]
 exact⟨rfl,rfl,rfl⟩
theorem own_index{xs:List Fd}{b ys:List UInt8}{v:Nat}(hv:v≠0)(hb:b.length≤100000)(he:atE xs v=0) :
  owE xs (beB b++ys) v=0∧owF xs (beB b++ys) v=((atV xs v).1,st b)∧owR xs (beB b++ys) v=ys:=by
 obtain⟨h4,h5,h6⟩:=be_back hb ys
 unfold owE owF owR
 rw[if_neg hv,if_neg hv,if_neg hv,if_pos he,if_pos he,if_pos he,h4,h5,h6]
 exact⟨rfl,rfl,rfl⟩
theorem way_mark(way:Int)(n:Nat)(ys:List UInt8):kk (hd (putN n (wR way) (wU way)++ys))=(if way=1 then 2 else 4)∧kb (hd (putN n (wR way) (wU way)++ys))=wR way:=by
 by_cases h1:way=1
 ·subst h1
  exact mark_2 n ys
 ·rw[if_neg h1,show wR way=4 from if_neg h1]
  by_cases h2:way=2
  ·subst h2
   exact mark_4 n 16 (.inl rfl) ys
  ·rw[show wU way=0 by unfold wU;rw[if_neg h1,if_neg h2]]
   exact mark_4 n 0 (.inr rfl) ys
theorem way_bd(way:Int):wR way≤8∧wU way<256∧1≤wR way:=by
 unfold wR wU
 split<;>(try split)<;>omega
theorem fld_one{M:Int}{xs:List Fd}{a b ys:List UInt8}(way:Int)(ha:a.length≤100000)(hb:b.length≤100000) :
  qE ⟨M,xs,fldL a b way++ys⟩=(if way=1 then addE M xs else 0)∧qF ⟨M,xs,fldL a b way++ys⟩=(st a,st b)∧
  qS ⟨M,xs,fldL a b way++ys⟩=(if way=1 then ⟨addM M xs,addL M xs (st a,st b),ys⟩ else ⟨M,xs,ys⟩):=by
 obtain⟨hw1,hw2,hw3⟩:=way_bd way
 have hp:putL 0 (wR way) (wU way)=putN 0 (wR way) (wU way):=by
  unfold putL
  rw[if_pos (show MayN 0 (wR way:Int) from⟨⟨by omega,by omega⟩,by omega,by omega⟩)]
  simp
 have hl:fldL a b way++ys=putN 0 (wR way) (wU way)++(beB a++(beB b++ys)):=by
  unfold fldL
  rw[hp]
  simp only[List.append_assoc]
 rw[hl]
 obtain⟨m1,m2⟩:=way_mark way 0 (beB a++(beB b++ys))
 obtain⟨n1,n2,n3⟩:=num_back (n:=0) hw1 hw2 (by omega) (beB a++(beB b++ys))
 obtain⟨o1,o2,o3⟩:=own_text (xs:=xs) (ys:=ys) ha hb
 obtain⟨q1,q2,q3⟩:=own_at (s:=⟨M,xs,putN 0 (wR way) (wU way)++(beB a++(beB b++ys))⟩) m2 m1 (by split<;>simp) n1 n2 n3 o1
 rw[q1,q2,q3]
 simp only[o2,o3]
 by_cases h:way=1
 ·simp[h]
 ·simp[h]
end Go.Proofs.YtahiajeggbpogaaGreatDoor.Up
namespace Go.Proofs.YtahiajeggbpogaaGreatDoor.Up
open Go.RowKit Px Tx Tb
set_option linter.unusedVariables false
set_option linter.unusedSimpArgs false
theorem okA_of{M most:Int}{xs:List Fd}(hr:rightB M xs=true)(h0:0≤most)(h1:most≤4096):okA M most xs=true:=by
 unfold okA okB
 rw[hr,decide_eq_true h0,decide_eq_true h1]
 rfl
theorem bZ_none{M most:Int}{xs:List Fd}{ls:List UInt8}(h:kk (hd ls)≠3):bZ most ⟨M,xs,ls⟩=(0,⟨M,xs,ls⟩):=by
 unfold bZ
 cases hl:(⟨M,xs,ls⟩:Sta).ls.length with
 | zero=>rfl
 | succ f=>unfold zs;rw[if_pos (Or.inr h)]
theorem block_one {M most : Int} {xs : List Fd} {ls : List UInt8} (hr : rightB M xs = true) (h0 : 0 ≤ most) (h1 : most ≤ 4096) (hk : kk (hd ls) ≠ 3) (hl : ls ≠ []) (he : qE ⟨M, xs, ls⟩ = 0) (hs : (qS ⟨M, xs, ls⟩).ls = []) :
    bE M most xs ls = 0 ∧ bAll M most xs ls = [qF ⟨M, xs, ls⟩] ∧ bM M most xs ls = (qS ⟨M, xs, ls⟩).M ∧ bX M most xs ls = (qS ⟨M, xs, ls⟩).xs := by
  have hz := bZ_none (M := M) (most := most) (xs := xs) hk
  have hn : bN most ⟨M, xs, ls⟩ = (0, [qF ⟨M, xs, ls⟩], qS ⟨M, xs, ls⟩) := by
    unfold bN
    rw [hz]
    exact rn_end 1 _ _ (Nat.le_refl _) (fun j hj => by obtain rfl : j = 0 := by omega
                                                       exact ⟨hl, he⟩) hs
  have hE : bE M most xs ls = 0 := by unfold bE; rw [if_neg (by rw [okA_of hr h0 h1]; exact Bool.noConfusion), hz, if_neg (by simp), hn]
  refine ⟨hE, ?_, ?_, ?_⟩
  · unfold bAll; rw [hn]
  · unfold bM; rw [if_pos hE, hn]
  · unfold bX; rw [if_pos hE, hn]
end Go.Proofs.YtahiajeggbpogaaGreatDoor.Up
