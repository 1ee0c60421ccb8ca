import Derived.Test.YtahiajeggbpogaaGreatDoorUpI
set_option maxRecDepth 100000
set_option maxHeartbeats 4000000
namespace Go.Proofs.YtahiajeggbpogaaGreatDoor
open Go.RowKit Px Tx Tb Up
set_option linter.unusedVariables false
set_option linter.unusedSimpArgs false
theorem Up.n_le(ls:List UInt8)(k:Nat):(nR ls k).length≤ls.length:=by unfold nR;rw[List.length_drop];omega
theorem Up.atH{M:Int}{xs:List Fd}{V:Nat}(hX:full xs≤100000)(hV:V<2147483648):HAt M xs V (atV xs V).1 (atV xs V).2 (atE xs V):=fun {W A n c} h hS=>by
 have h1:=h.1
 have h2:=full_len xs
 exact t_at M A n c xs V W hS h (by omega) (i64_wf (by omega) (by omega))
theorem Up.addH{M:Int}{xs:List Fd}{f:Fd}(hX:full xs≤100000)(hf:sz f≤100000):HAd M xs f.1 f.2 (addM M xs) (addL M xs f) (addE M xs):=fun {W A n c} h hA=>by
 refine(t_add M A n c xs f W h hA hX hf).mono ?_
 rintro e w' ⟨v,rfl,ho,hb⟩
 obtain⟨A1,c1,rfl,h1,h2,_,_⟩:=ho.form
 exact⟨A1,c1,rfl,ho.handF,h2,hb⟩
theorem Up.resH{M:Int}{xs:List Fd}{m:Int}(hX:full xs≤100000){W:World}{A:Option Addr}{n c:Nat}(h:Fs W W.heap.size A n xs)(hA:A=none→c=0) :
  Calls Tryz.prog 59 #[.agg #[.int .i64 M,.slice A n c],.int .i64 m] W fun e w'=>∃A' c',e = .returned (.tuple #[.agg #[.int .i64 (resM M xs m),.slice A' (resL M xs m).length c'],.int .i64 (resE M xs m)])∧HandF w' W.heap.size (fF A' (resL M xs m).length (resL M xs m))∧(A'=none→c'=0)∧Below W.heap.size W w':=by
 refine(t_resize M A n c xs m W h hA hX).mono ?_
 rintro e w' ⟨v,rfl,ho,hb⟩
 obtain⟨A1,c1,rfl,h1,h2,_,_⟩:=ho.form
 exact⟨A1,c1,rfl,ho.handF,h2,hb⟩
theorem u_field{fs:List Fact}{gs:List Bx}{i g K:Nat}{most:Int}{A:Option Addr}{n c:Nat}{LA:Option Addr}{ln lc:Nat}{s:Sta}(w:World)(hO:Opn w fs gs i g K most A n c LA ln lc s)(hK:kF K∈fs)(hR:rwF∈fs)(hS:stF∈fs)(hne:s.ls≠[])(hn:ln≤10000)(hX:full s.xs≤20000) :
  Calls Tryz.prog 63 #[.pointer (some ⟨g,0,none⟩)] w fun e w'=>e = .returned (.tuple #[fdv (qF s),.int .i64 (qE s)])∧w.grownBy w' (some g)∧Cls w' fs gs i g K most (qS s):=by
 have hkb:=kb_bd (hd s.ls)
 have hlen:=hO.len
 have hRl:(qR s).length≤10000:=by have:=n_le s.ls (kb (hd s.ls));unfold qR;omega
 have HB:Hid (HBg g K most s (kb (hd s.ls)) ((hd s.ls).toNat / 2 ^ kb (hd s.ls)) (kk (hd s.ls))):=Lib.hid (fun h hk=>u_begun _ h hk hne)
 have HN:Hid (HNm g K most s (kb (hd s.ls)) (qV s) (qC s) (qR s)):=Lib.hid (fun h=>u_number _ _ h (by omega) (by omega))
 have hV:qC s=0→qV s<2147483648:=fun h=>(n_bd (k:=kb (hd s.ls)) (by omega) h).1
 have HW:qC s=0→Hid (HOw g K most ⟨s.M,s.xs,qR s⟩ (qV s) (owF s.xs (qR s) (qV s)).1 (owF s.xs (qR s) (qV s)).2 (owE s.xs (qR s) (qV s)) (owR s.xs (qR s) (qV s))):=fun h=>Lib.hid (fun h2 hr hs=>u_own _ h2 (qV s) hr hs (by have:=h2.len;simp only at this;omega) (by simp only;omega) (hV h))
 have hkk:=kk_bd (hd s.ls)
 unfold qF qE qS
 by_cases hC:qC s=0
 ·by_cases h1:kk (hd s.ls)=1
  ·simp only[hC,h1,ne_eq,not_true_eq_false,if_false,if_true]
   exact u_field_b w hO _ _ _ _ _ _ _ _ _ hK HB HN (by omega) hC h1 hS (Lib.hid (atH (by omega) (hV hC)))
  ·by_cases h3:kk (hd s.ls)=3
   ·simp only[hC,h3,ne_eq,not_true_eq_false,if_false,if_true,show ¬((3:Nat)=1) by omega]
    exact u_field_c w hO _ _ _ _ _ _ hK HB HN (by omega) hC h3
   ·by_cases ho:owE s.xs (qR s) (qV s)=0
    ·by_cases h2:kk (hd s.ls)=2
     ·simp only[hC,h2,ho,ne_eq,not_true_eq_false,if_false,if_true,and_self,show ¬((2:Nat)=1) by omega,show ¬((2:Nat)=3) by omega]
      exact u_field_e w hO _ _ _ _ _ _ _ _ _ _ _ _ _ hK HB HN (by omega) hC ho h2 hR hS (HW hC) (Lib.hid (addH (by omega) (own_sz _ _ _ hX hRl)))
     ·have hn2 : ¬(owE s.xs (qR s) (qV s)=0∧kk (hd s.ls)=2):=fun h=>h2 h.2
      simp only[hC,h1,h3,hn2,ne_eq,not_true_eq_false,if_false]
      exact u_field_d2 w hO _ _ _ _ _ _ _ _ _ _ hK HB HN (by omega) hC ho (by omega) hR hS (HW hC)
    ·have hn2 : ¬(owE s.xs (qR s) (qV s)=0∧kk (hd s.ls)=2):=fun h=>ho h.1
     simp only[hC,h1,h3,hn2,ne_eq,not_true_eq_false,if_false]
     exact u_field_d1 w hO _ _ _ _ _ _ _ _ _ _ hK HB HN (by omega) hC ho (by omega) hR hS (HW hC)
 ·simp only[ne_eq,hC,not_false_eq_true,if_true]
  exact u_field_a w hO _ _ _ _ _ _ hK HB HN (by omega) hC
theorem u_size_a{fs:List Fact}{gs:List Bx}{i g K:Nat}{most:Int}{A:Option Addr}{n c:Nat}{LA:Option Addr}{ln lc:Nat}{s:Sta}(w:World)(hO:Opn w fs gs i g K most A n c LA ln lc s)(B Y V C:Nat)(R:List UInt8)(HN:Hid (HNm g K most s B V C R))(hB8:B≤8)(hC:C≠0) :
  Calls Tryz.prog 61 #[.pointer (some ⟨g,0,none⟩),.agg #[.int .u8 ((8-B:Nat):Int),.int .u8 (Y:Int)]] w fun e w'=>e = .returned (.int .i64 (C:Int))∧w.grownBy w' (some g)∧Cls w' fs gs i g K most ⟨s.M,s.xs,R⟩:=by
 have HI:=Lib.hid hO.i
 have K0:=Lib.hid ((hO).boxg 72 #[.int .u8 ((8-B:Nat):Int),.int .u8 (Y:Int)] w.heap.size (by simp))
 have G0:Hid (w.grownBy _ (some g)):=Lib.hid (gb_alloc (gb_refl w g) (.cells #[.int .u8 ((8-B:Nat):Int),.int .u8 (Y:Int)] 72))
 have hb:((C:Int)==0)=false:=by rw[beq_eq_false_iff_ne];omega
 clear hO
 go_enter Tryz.func61,Tryz.ntmps61
 go_wp2_with (first
  | go_skip
  | (refine at_load 72 (.tmp 3) (by rfl) ?_;refine wpList_load_row (by rfl) 72 (.tmp 3) (by rfl) w.heap.size (by rfl) 72 #[.int .u8 ((8-B:Nat):Int),.int .u8 (Y:Int)] (0,0) _ (K0.out.e.row 0 rfl) Tryz.underlying72 (by rfl) infoc_m ?_)
  | (go_at_call 71;(with_reducible refine(u_rest' B Y _ hB8).mono ?_);rintro e w1 ⟨rfl,hb⟩;have K1:=Lib.hid (K0.out.on hb);have G1:Hid (w.grownBy w1 (some g)):=Lib.hid (gb_below G0.out hb);clear hb K0 G0)
  | (go_at_call 85;(with_reducible refine(HN.out K1.out).mono ?_);rintro e w2 ⟨rfl,hg,A2,n2,c2,LA2,ln2,lc2,hk⟩;have K2:=Lib.hid hk;have G2:Hid (w.grownBy w2 (some g)):=Lib.hid (gb_trans G1.out hg);clear hg hk K1 G1))
 go_ret
 exact⟨rfl,G2.out,K2.out.shut (fun x hx=>by simp[hx]) HI.out (by simp only[List.set_cons_succ,List.set_cons_zero,List.set_set];exact List.sublist_cons_self _ _)⟩
theorem u_size_b{fs:List Fact}{gs:List Bx}{i g K:Nat}{most:Int}{A:Option Addr}{n c:Nat}{LA:Option Addr}{ln lc:Nat}{s:Sta}(w:World)(hO:Opn w fs gs i g K most A n c LA ln lc s)(B Y V C:Nat)(R:List UInt8)(HN:Hid (HNm g K most s B V C R))(hB8:B≤8)(hC:C=0)(hv:most<(V:Int)) :
  Calls Tryz.prog 61 #[.pointer (some ⟨g,0,none⟩),.agg #[.int .u8 ((8-B:Nat):Int),.int .u8 (Y:Int)]] w fun e w'=>e = .returned (.int .i64 100)∧w.grownBy w' (some g)∧Cls w' fs gs i g K most ⟨s.M,s.xs,R⟩:=by
 have HI:=Lib.hid hO.i
 have K0:=Lib.hid ((hO).boxg 72 #[.int .u8 ((8-B:Nat):Int),.int .u8 (Y:Int)] w.heap.size (by simp))
 have G0:Hid (w.grownBy _ (some g)):=Lib.hid (gb_alloc (gb_refl w g) (.cells #[.int .u8 ((8-B:Nat):Int),.int .u8 (Y:Int)] 72))
 have hb:((C:Int)==0)=true:=by rw[hC];rfl
 have hv2:decide (most<(V:Int))=true:=decide_eq_true hv
 clear hO hC hv
 go_enter Tryz.func61,Tryz.ntmps61
 go_wp2_with (first
  | go_skip
  | (refine at_load 72 (.tmp 3) (by rfl) ?_;refine wpList_load_row (by rfl) 72 (.tmp 3) (by rfl) w.heap.size (by rfl) 72 #[.int .u8 ((8-B:Nat):Int),.int .u8 (Y:Int)] (0,0) _ (K0.out.e.row 0 rfl) Tryz.underlying72 (by rfl) infoc_m ?_)
  | (go_at_call 71;(with_reducible refine(u_rest' B Y _ hB8).mono ?_);rintro e w1 ⟨rfl,hb⟩;have K1:=Lib.hid (K0.out.on hb);have G1:Hid (w.grownBy w1 (some g)):=Lib.hid (gb_below G0.out hb);clear hb K0 G0)
  | (go_at_call 85;(with_reducible refine(HN.out K1.out).mono ?_);rintro e w2 ⟨rfl,hg,A2,n2,c2,LA2,ln2,lc2,hk⟩;have K2:=Lib.hid hk;have G2:Hid (w.grownBy w2 (some g)):=Lib.hid (gb_trans G1.out hg);clear hg hk K1 G1)
  | (refine at_load 3 (.tmp 20) (by rfl) ?_;refine wpListG_get (by rfl) 3 (.tmp 20) (by rfl) g 1 (by rfl) 64 (rdc K most s.M A2 n2 c2 LA2 ln2 lc2) (.int .i64 most) _ (K2.out.row) (by rfl) Tryz.underlying3 (by rfl) ?_))
 go_ret
 exact⟨rfl,G2.out,K2.out.shut (fun x hx=>by simp[hx]) HI.out (by simp only[List.set_cons_succ,List.set_cons_zero,List.set_set];exact List.sublist_cons_self _ _)⟩
theorem u_size_c{fs:List Fact}{gs:List Bx}{i g K:Nat}{most:Int}{A:Option Addr}{n c:Nat}{LA:Option Addr}{ln lc:Nat}{s:Sta}(w:World)(hO:Opn w fs gs i g K most A n c LA ln lc s)(B Y V C:Nat)(R:List UInt8)(HN:Hid (HNm g K most s B V C R))(hB8:B≤8)(hC:C=0)(hv : ¬most<(V:Int))(hX:full s.xs≤100000) :
  Calls Tryz.prog 61 #[.pointer (some ⟨g,0,none⟩),.agg #[.int .u8 ((8-B:Nat):Int),.int .u8 (Y:Int)]] w fun e w'=>e = .returned (.int .i64 (resE s.M s.xs (V:Int)))∧w.grownBy w' (some g)∧Cls w' fs gs i g K most ⟨(resM s.M s.xs (V:Int)),(resL s.M s.xs (V:Int)),R⟩:=by
 have HI:=Lib.hid hO.i
 have K0:=Lib.hid ((hO).boxg 72 #[.int .u8 ((8-B:Nat):Int),.int .u8 (Y:Int)] w.heap.size (by simp))
 have G0:Hid (w.grownBy _ (some g)):=Lib.hid (gb_alloc (gb_refl w g) (.cells #[.int .u8 ((8-B:Nat):Int),.int .u8 (Y:Int)] 72))
 have hb:((C:Int)==0)=true:=by rw[hC];rfl
 have hb2:((0:Int)==0)=true:=rfl
 have hv2:decide (most<(V:Int))=false:=decide_eq_false hv
 clear hO hC hv
 go_enter Tryz.func61,Tryz.ntmps61
 go_wp2_with (first
  | go_skip
  | (refine at_load 72 (.tmp 3) (by rfl) ?_;refine wpList_load_row (by rfl) 72 (.tmp 3) (by rfl) w.heap.size (by rfl) 72 #[.int .u8 ((8-B:Nat):Int),.int .u8 (Y:Int)] (0,0) _ (K0.out.e.row 0 rfl) Tryz.underlying72 (by rfl) infoc_m ?_)
  | (go_at_call 71;(with_reducible refine(u_rest' B Y _ hB8).mono ?_);rintro e w1 ⟨rfl,hb⟩;have K1:=Lib.hid (K0.out.on hb);have G1:Hid (w.grownBy w1 (some g)):=Lib.hid (gb_below G0.out hb);clear hb K0 G0)
  | (go_at_call 85;(with_reducible refine(HN.out K1.out).mono ?_);rintro e w2 ⟨rfl,hg,A2,n2,c2,LA2,ln2,lc2,hk⟩;have K2:=Lib.hid hk;have G2:Hid (w.grownBy w2 (some g)):=Lib.hid (gb_trans G1.out hg);clear hg hk K1 G1)
  | (refine at_load 3 (.tmp 20) (by rfl) ?_;refine wpListG_get (by rfl) 3 (.tmp 20) (by rfl) g 1 (by rfl) 64 (rdc K most s.M A2 n2 c2 LA2 ln2 lc2) (.int .i64 most) _ (K2.out.row) (by rfl) Tryz.underlying3 (by rfl) ?_)
  | (refine at_load 24 (.tmp 30) (by rfl) ?_;refine wpList_part (by rfl) 24 (.tmp 30) (by rfl) g 2 (by rfl) 64 (rdc K most s.M A2 n2 c2 LA2 ln2 lc2) #[.int .i64 s.M,.slice A2 n2 c2] _ (K2.out.row) (part2 (by rfl) (by rfl)) Tryz.underlying24 (by rfl) infoc_T ?_)
  | (go_at_call 59;(with_reducible refine(resH (m:=(V:Int)) hX (K2.out.fld) K2.out.hA).mono ?_);rintro e w3 ⟨Aa,ca,rfl,hh,hn,hb⟩;have KE:=Lib.hid (K2.out.e.hand hb hh);have KA:=Lib.hid (K2.out.on hb);have G3:Hid (w.grownBy w3 (some g)):=Lib.hid (gb_below G2.out hb);clear hb hh K2 G2)
  | (refine at_store 24 (.tmp 37) (.tmp 34) (by rfl) ?_;refine wpList_put (by rfl) 24 (.tmp 37) (.tmp 34) (by rfl) g 2 (.agg #[.int .i64 (resM s.M s.xs (V:Int)),.slice Aa (resL s.M s.xs (V:Int)).length ca]) (by rfl) (by rfl) 64 (rdc K most s.M A2 n2 c2 LA2 ln2 lc2) (rdc K most (resM s.M s.xs (V:Int)) Aa (resL s.M s.xs (V:Int)).length ca LA2 ln2 lc2) (KA.out.row) (by simp[Value.cells,rdc]) (by kernel_rfl) infoc_T (by kernel_rfl) ?_;intro w4 hrow hoth hz hbl;have e1:=KE.out.turn (i+1) KA.out.i hrow hoth hz;have K4:Hid (Opn w4 _ _ (i+1) g K most Aa (resL s.M s.xs (V:Int)).length ca LA2 ln2 lc2 ⟨(resM s.M s.xs (V:Int)),(resL s.M s.xs (V:Int)),R⟩):=Lib.hid ⟨e1,set_ix KA.out.i,List.mem_cons_self ..,List.mem_cons_of_mem _ KA.out.l,KA.out.hl,KA.out.hN,hn⟩;have G4:Hid (w.grownBy w4 (some g)):=Lib.hid (gb_put G3.out hoth hz hbl (.inl rfl));clear hrow hoth hz hbl e1 KA KE G3))
 go_ret
 exact⟨rfl,G4.out,K4.out.shut (fun x hx=>by simp[hx]) HI.out (by simp only[List.set_cons_succ,List.set_cons_zero,List.set_set];exact List.sublist_cons_self _ _)⟩
theorem u_size{fs:List Fact}{gs:List Bx}{i g K:Nat}{most:Int}{A:Option Addr}{n c:Nat}{LA:Option Addr}{ln lc:Nat}{s:Sta}(w:World)(hO:Opn w fs gs i g K most A n c LA ln lc s)(hX:full s.xs≤100000)(Y:Nat) :
  Calls Tryz.prog 61 #[.pointer (some ⟨g,0,none⟩),.agg #[.int .u8 ((8-kb (hd s.ls):Nat):Int),.int .u8 (Y:Int)]] w fun e w'=>e = .returned (.int .i64 (zE most s))∧w.grownBy w' (some g)∧Cls w' fs gs i g K most (zS most s):=by
 have hkb:=kb_bd (hd s.ls)
 have HN:Hid (HNm g K most s (kb (hd s.ls)) (qV s) (qC s) (qR s)):=Lib.hid (fun h=>u_number _ _ h (by omega) (by omega))
 unfold zE zS
 by_cases hC:qC s=0
 ·by_cases hv:most<(qV s:Int)
  ·simp only[hC,hv,ne_eq,not_true_eq_false,if_false,if_true]
   exact u_size_b w hO _ Y _ _ _ HN (by omega) hC hv
  ·simp only[hC,hv,ne_eq,not_true_eq_false,if_false]
   exact u_size_c w hO _ Y _ _ _ HN (by omega) hC hv hX
 ·simp only[ne_eq,hC,not_false_eq_true,if_true]
  exact u_size_a w hO _ Y _ _ _ HN (by omega) hC
end Go.Proofs.YtahiajeggbpogaaGreatDoor
