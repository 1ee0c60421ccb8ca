import Derived.Test.YtahiajeggbpogaaGreatDoorUpOm
set_option maxRecDepth 100000
set_option maxHeartbeats 8000000
namespace Go.Proofs.YtahiajeggbpogaaGreatDoor
open Go.RowKit Go.Shelf Px Tx Tb Up GD
set_option linter.unusedVariables false
set_option linter.unusedSimpArgs false
attribute [local go_sem] Oper.semAt_some
theorem Up.kept_al{w:World}{o:Obj}{a:Addr}{v:Value}(h:w.cell? a=some v):(w.alloc o).cell? a=some v:=by
 obtain⟨x,hx,_⟩:=cells_of_cell h
 exact(World.cell?_alloc_lt w o a (Array.getElem?_eq_some_iff.1 hx).1).trans h
theorem Up.fs_at{w:World}{B b o:Nat}{x:Fd}(h:Fs w B (some ⟨b,o,none⟩) 1 [x]):w.cell? ⟨b,o,none⟩=some (.string x.1)∧w.cell? ⟨b,o+1,none⟩=some (.string x.2):=by
 obtain⟨b',o',e,hb,hc⟩:=fs_cell h (by omega)
 cases e
 obtain⟨y,hy,h1,h2⟩:=hc 0 (by omega)
 cases hy
 exact⟨h1,h2⟩
theorem z_call{fs:List Fact}{gs:List Bx}(W0:World)(hE:EnvF W0 fs gs)(ls:List UInt8)(cells:Array Value)(hc:(ls.map bv).toArray=cells)(n:Nat)(hn:ls.length=n)(hn2:n≤1000){M most:Int}{A:Option Addr}{k c:Nat}{xs:List Fd}(hA:fF A k xs∈fs)(hN:A=none→c=0)(hS:stF∈fs)(hR:rwF∈fs)(hM:mvF∈fs)(hF:full xs≤1000)
  {E N:Int} {L X:List Fd} {G:Bool} {l x:Nat} (hv:bE M most xs ls=E∧bL M most xs ls=L∧bG M most xs ls=G∧bM M most xs ls=N∧bX M most xs ls=X) (hl:L.length=l) (hx:X.length=x) :
  Calls Tryz.prog 8 #[.agg #[.int .i64 M,.slice A k c],.int .i64 most,.slice (some ⟨W0.heap.size,0,none⟩) n n] (W0.alloc (.cells cells 5)) fun e w'=>∃LL cl TT tc,e = .returned (.tuple #[.agg #[.slice LL l cl,.bool G,.int .i64 N,.slice TT x tc],.int .i64 E])∧Below W0.heap.size W0 w'∧EnvF w' (fF LL l L::fF TT x X::fs) gs∧(LL=none→cl=0)∧(TT=none→tc=0):=by
 obtain⟨rfl,rfl,rfl,rfl,rfl⟩:=hv
 subst hl hx hn hc
 have hb:=(Below.refl W0.heap.size W0).alloc (Nat.le_refl _) (.cells (ls.map bv).toArray 5)
 have hs:Bs (W0.alloc (.cells (ls.map bv).toArray 5)) (W0.heap.size+1) (some ⟨W0.heap.size,0,none⟩) ls.length ls:=bs_lit W0 5 ls _ W0.heap.size rfl rfl
 have E1:EnvF (W0.alloc (.cells (ls.map bv).toArray 5)) (bF (some ⟨W0.heap.size,0,none⟩) ls.length ls::fs) gs:=(hE.on hb).fact (hs.more (by simp)) (fun k hk=>by
  obtain⟨_,o,e⟩:=hk
  cases e
  exact⟨by simp,fun y hy e=>by have:=hE.lt hy;omega⟩)
 refine(u_Block _ E1 (List.mem_cons_self ..) (Nat.le_refl _) (fun h=>by cases h) (List.mem_cons_of_mem _ hA) hN (List.mem_cons_of_mem _ hS) (List.mem_cons_of_mem _ hR) (List.mem_cons_of_mem _ hM) (by omega) (by omega)).mono ?_
 rintro e w' ⟨LL,cl,TT,tc,rfl,h1,h2,h3,h4⟩
 exact⟨LL,cl,TT,tc,rfl,hb.trans (h1.mono (by simp)),h2.sub (fun y hy=>by
  simp only[List.mem_cons] at hy ⊢
  rcases hy with rfl | rfl | hy<;>simp[*]) (List.Sublist.refl _),h3,h4⟩
theorem z_idx(w:World)(hM:Mks w):Calls Tryz.prog 11 #[.int .i64 2] w fun e w'=>∃A c,e = .returned (.tuple #[.slice A 1 c,.int .i64 0])∧HandS w' w.heap.size A 1 c [130]∧Below w.heap.size w w':=by
 have h:=u_Indexed 2 w hM
 unfold PutD at h
 refine h.mono ?_
 rintro e w' ⟨A,c,rfl,ho,hb⟩
 have h1:putL 2 (7:Nat) 128=[130]:=z_g.1
 have h2:putE 2 (7:Nat)=0:=z_g.2
 rw[h1] at ho ⊢
 rw[h2]
 obtain⟨A',c',e,hh⟩:=ho.handS (n:=1) rfl
 cases e
 exact⟨A,c,rfl,hh,hb⟩
theorem z_nam{fs:List Fact}{gs:List Bx}(w:World)(hV:EnvF w fs gs)(hR:rwF∈fs)(hM:mvF∈fs):Calls Tryz.prog 15 #[.int .i64 21,.string ⟨#[50]⟩,.int .i64 2] w fun e w'=>∃A c,e = .returned (.tuple #[.slice A 4 c,.int .i64 0])∧HandS w' w.heap.size A 4 c [31,6,1,50]∧Below w.heap.size w w':=by
 have h:=u_Named 21 [50] 2 w hV hR hM (by decide)
 rw[z_h.1,z_h.2] at h
 exact h
theorem Up.fs_one{w:World}{B:Nat}{A:Option Addr}{x:Fd}(h:Fs w B A 1 [x]) : ∃b o,A=some ⟨b,o,none⟩∧b<B∧w.cell? ⟨b,o,none⟩=some (.string x.1)∧w.cell? ⟨b,o+1,none⟩=some (.string x.2):=by
 obtain⟨b,o,e,hb,hc⟩:=fs_cell h (by omega)
 obtain⟨y,hy,h1,h2⟩:=hc 0 (by omega)
 cases hy
 exact⟨b,o,e,hb,h1,h2⟩
theorem z_same(W0:World)(xs:List UInt8)(cells:Array Value)(hc:(xs.map bv).toArray=cells)(n:Nat)(hn:xs.length=n){A:Option Addr}{c:Nat}(hA:Bs W0 W0.heap.size A n xs) :
  Calls Tryz.prog 17 #[.slice A n c,.slice (some ⟨W0.heap.size,0,none⟩) n n] (W0.alloc (.cells cells 5)) fun e w'=>e = .returned (.bool true)∧Below W0.heap.size W0 w':=by
 subst hn hc
 have hb:=(Below.refl W0.heap.size W0).alloc (Nat.le_refl _) (.cells (xs.map bv).toArray 5)
 have hs:Bs (W0.alloc (.cells (xs.map bv).toArray 5)) (W0.heap.size+1) (some ⟨W0.heap.size,0,none⟩) xs.length xs:=bs_lit W0 5 xs _ W0.heap.size rfl rfl
 refine(v_same A _ _ _ c xs.length W0.heap.size (W0.heap.size+1) xs xs _ (hA.below hb) hs).mono ?_
 rintro e w' ⟨rfl,rfl⟩
 exact⟨by rw[beq_self_eq_true],hb⟩
theorem z_same_d(W0:World)(xs:List UInt8)(cells:Array Value)(hc:(xs.map bv).toArray=cells)(n:Nat)(hn:xs.length=n){A:Option Addr}{c:Nat}(hA:Bs W0 W0.heap.size A n xs) :
  Calls Tryz.prog 17 #[.slice A n c,.slice (some ⟨W0.heap.size,0,none⟩) n n] (W0.alloc (.cells cells 5)).drew fun e w'=>e = .returned (.bool true)∧Below W0.heap.size W0 w':=by
 subst hn hc
 have hb:=((Below.refl W0.heap.size W0).alloc (Nat.le_refl _) (.cells (xs.map bv).toArray 5)).drew
 have hs:Bs ((W0.alloc (.cells (xs.map bv).toArray 5)).drew) (W0.heap.size+1) (some ⟨W0.heap.size,0,none⟩) xs.length xs:=(bs_lit W0 5 xs _ W0.heap.size rfl rfl).below (Below.refl _ _).drew
 refine(v_same A _ _ _ c xs.length W0.heap.size (W0.heap.size+1) xs xs _ (hA.below hb) hs).mono ?_
 rintro e w' ⟨rfl,rfl⟩
 exact⟨by rw[beq_self_eq_true],hb⟩
theorem z_size{A:Option Addr}{c:Nat}(w:World)(hA:Fs w w.heap.size A 1 [ga]):Calls Tryz.prog 20 #[.slice A 1 c] w fun e w'=>e = .returned (.int .i64 34)∧Below w.heap.size w w':=by
 have h:=u_Size A 1 c [ga] w hA (by decide)
 rw[z_s.2.2] at h
 exact h
theorem z_sam{LA LB TA TB:Option Addr}{ln lc lm ld tn tc tm td:Nat}{g h:Bool}{M N:Int}{xs ys xs' ys':List Fd}(w:World)(h1:Fs w w.heap.size LA ln xs)(h2:Fs w w.heap.size LB lm ys)(h3:Fs w w.heap.size TA tn xs')(h4:Fs w w.heap.size TB tm ys')(n1:ln≤1000000)(n2:tn≤1000000){r:Bool}(hv:sameU xs g M xs' ys h N ys'=r) :
  Calls Tryz.prog 22 #[.agg #[.slice LA ln lc,.bool g,.int .i64 M,.slice TA tn tc],.agg #[.slice LB lm ld,.bool h,.int .i64 N,.slice TB tm td]] w fun e w'=>e = .returned (.bool r)∧Below w.heap.size w w':=by
 subst hv
 exact u_Same LA LB TA TB ln lc lm ld tn tc tm td g h M N xs ys xs' ys' w h1 h2 h3 h4 n1 n2
section
variable {P:Program}{l:List Oper}{Q:Exit→Act→World→Prop}{md:Region.Mode}{S:World→Prop}
theorem oneD{i:Nat}{oi:Oper}{r:List Oper}{v:Value}{fuel:Nat}{listed:Array Bool}{a:Act}{w:World}(hi:List.drop i l=oi::r)
  (hr:Region.ready md l.toArray listed=[i]) (hy:YieldsIf P l.toArray S oi v a) (hS:S w)
  (h:wpAnyH P md l.toArray Q S fuel (listed.setIfInBounds i true) (a.put oi.dst v) w):wpAnyH P md l.toArray Q S (fuel+1) listed a w:=
 wpAnyH_all hr (by simp) (fun j hj=>by
  rcases List.mem_singleton.1 hj with rfl
  exact hy.wpOp (getOf hi) hS ⟨hS,h⟩)
end
theorem wakes10{fs:List Fact}{gs:List Bx}(w:World)(hV:EnvF w fs gs)(hS:stF∈fs)(hR:rwF∈fs)(hM:mvF∈fs) :
  Calls Tryz.prog 7 #[] w fun e w'=>e = .returned (.bool true)∧Below w.heap.size w w':=by
 have HS:=Lib.hid hS
 have HR:=Lib.hid hR
 have HM:=Lib.hid hM
 have K0:=Lib.hid ((env_nil hV).boxg 24 #[.int .i64 0,.slice none 0 0] w.heap.size rfl)
 have G0:=Lib.hid ((Below.refl w.heap.size w).alloc (Nat.le_refl _) (.cells #[.int .i64 0,.slice none 0 0] 24))
 clear hV hS hR hM
 go_enter Tryz.func7,Tryz.ntmps7
 go_wp2_with (first
  | go_skip
  | (refine at_store 24 (.tmp 1) (.tmp 18) (by rfl) ?_;refine wpList_put (by rfl) 24 (.tmp 1) (.tmp 18) (by rfl) w.heap.size 0 (.agg #[.int .i64 100,.slice none 0 0]) (by rfl) (by rfl) 24 #[.int .i64 0,.slice none 0 0] #[.int .i64 100,.slice none 0 0] (K0.out.row 0 rfl) (by simp[Value.cells]) (by kernel_rfl) infoc_T (by kernel_rfl) ?_;intro w1 hrow hoth hz hbl;have K1:=Lib.hid (K0.out.turn 0 rfl hrow hoth hz);have G1:Hid (Below w.heap.size w w1):=Lib.hid (hbl _ _ (by omega) G0.out);clear hrow hoth hz hbl K0 G0)
  | (refine at_load 24 (.tmp 1) (by rfl) ?_;refine wpListG_row (by rfl) 24 (.tmp 1) (by rfl) w.heap.size (by rfl) 24 #[.int .i64 100,.slice none 0 0] _ (K1.out.row 0 rfl) Tryz.underlying24 (by rfl) infoc_T ?_)
  | (go_at_call 8;(with_reducible refine(z_call _ K1.out [130] #[.int .u8 130] rfl 1 rfl (by omega) (A:=none) (k:=0) (c:=0) (xs:=[]) (by simp) (fun _=>rfl) (by simp[HS.out]) (by simp[HR.out]) (by simp[HM.out]) (by decide) z_a rfl rfl).mono ?_);rintro e w2 ⟨L2,cl2,T2,tc2,rfl,hb,hE,hcl2,htc2⟩;have K2:=Lib.hid hE;have G2:Hid (Below w.heap.size w w2):=Lib.hid (below_step G1.out hb);have HT2:=Lib.hid htc2;clear hb hE hcl2 htc2 G1;have K2b:=Lib.hid (K2.out.boxg 31 #[.slice none 0 0,.bool false,.int .i64 0,.slice none 0 0] w2.heap.size rfl);have hz2:w.heap.size≤w2.heap.size:=G2.out.size;have G2b:=Lib.hid (G2.out.alloc hz2 (.cells #[.slice none 0 0,.bool false,.int .i64 0,.slice none 0 0] 31));clear K2 G2)
  | (refine at_store 31 (.tmp 2) (.tmp 23) (by rfl) ?_;refine wpList_put (by rfl) 31 (.tmp 2) (.tmp 23) (by rfl) w2.heap.size 0 (.agg #[.slice L2 1 cl2,.bool false,.int .i64 100,.slice T2 0 tc2]) (by rfl) (by rfl) 31 #[.slice none 0 0,.bool false,.int .i64 0,.slice none 0 0] #[.slice L2 1 cl2,.bool false,.int .i64 100,.slice T2 0 tc2] (K2b.out.row 0 rfl) (by simp[Value.cells]) (by kernel_rfl) infoc_U (by kernel_rfl) ?_;intro w3 hrow hoth hz hbl;have K3:=Lib.hid (K2b.out.turn 0 rfl hrow hoth hz);have G3:Hid (Below w.heap.size w w3):=Lib.hid (hbl _ _ (by omega) G2b.out);clear hrow hoth hz hbl K2b G2b)
  | (refine at_load 24 (.tmp 1) (by rfl) ?_;refine wpListG_row (by rfl) 24 (.tmp 1) (by rfl) w.heap.size (by rfl) 24 #[.int .i64 100,.slice none 0 0] _ (K3.out.row 1 rfl) Tryz.underlying24 (by rfl) infoc_T ?_)
  | (go_at_call 8;(with_reducible refine(z_call _ K3.out [64,1,97,1,49] #[.int .u8 64,.int .u8 1,.int .u8 97,.int .u8 1,.int .u8 49] rfl 5 rfl (by omega) (A:=none) (k:=0) (c:=0) (xs:=[]) (by simp) (fun _=>rfl) (by simp[HS.out]) (by simp[HR.out]) (by simp[HM.out]) (by decide) z_b rfl rfl).mono ?_);rintro e w4 ⟨L4,cl4,T4,tc4,rfl,hb,hE,hcl4,htc4⟩;have K4:=Lib.hid hE;have G4:Hid (Below w.heap.size w w4):=Lib.hid (below_step G3.out hb);have HT4:=Lib.hid htc4;clear hb hE hcl4 htc4 G3;have K4b:=Lib.hid (K4.out.boxg 31 #[.slice none 0 0,.bool false,.int .i64 0,.slice none 0 0] w4.heap.size rfl);have hz4:w.heap.size≤w4.heap.size:=G4.out.size;have G4b:=Lib.hid (G4.out.alloc hz4 (.cells #[.slice none 0 0,.bool false,.int .i64 0,.slice none 0 0] 31));clear K4 G4)
  | (refine at_store 31 (.tmp 4) (.tmp 29) (by rfl) ?_;refine wpList_put (by rfl) 31 (.tmp 4) (.tmp 29) (by rfl) w4.heap.size 0 (.agg #[.slice L4 1 cl4,.bool false,.int .i64 100,.slice T4 1 tc4]) (by rfl) (by rfl) 31 #[.slice none 0 0,.bool false,.int .i64 0,.slice none 0 0] #[.slice L4 1 cl4,.bool false,.int .i64 100,.slice T4 1 tc4] (K4b.out.row 0 rfl) (by simp[Value.cells]) (by kernel_rfl) infoc_U (by kernel_rfl) ?_;intro w5 hrow hoth hz hbl;have K5:=Lib.hid (K4b.out.turn 0 rfl hrow hoth hz);have G5:Hid (Below w.heap.size w w5):=Lib.hid (hbl _ _ (by omega) G4b.out);clear hrow hoth hz hbl K4b G4b)
  | (refine at_load 24 (.tmp 1) (by rfl) ?_;refine wpListG_row (by rfl) 24 (.tmp 1) (by rfl) w.heap.size (by rfl) 24 #[.int .i64 100,.slice none 0 0] _ (K5.out.row 2 rfl) Tryz.underlying24 (by rfl) infoc_T ?_)
  | (go_at_call 8;(with_reducible refine(z_call _ K5.out [128] #[.int .u8 128] rfl 1 rfl (by omega) (A:=none) (k:=0) (c:=0) (xs:=[]) (by simp) (fun _=>rfl) (by simp[HS.out]) (by simp[HR.out]) (by simp[HM.out]) (by decide) z_c rfl rfl).mono ?_);rintro e w6 ⟨L6,cl6,T6,tc6,rfl,hb,hE,hcl6,htc6⟩;have K6:=Lib.hid hE;have G6:Hid (Below w.heap.size w w6):=Lib.hid (below_step G5.out hb);have HT6:=Lib.hid htc6;clear hb hE hcl6 htc6 G5;have K6b:=Lib.hid (K6.out.boxg 31 #[.slice none 0 0,.bool false,.int .i64 0,.slice none 0 0] w6.heap.size rfl);have hz6:w.heap.size≤w6.heap.size:=G6.out.size;have G6b:=Lib.hid (G6.out.alloc hz6 (.cells #[.slice none 0 0,.bool false,.int .i64 0,.slice none 0 0] 31));clear K6 G6)
  | (refine at_store 31 (.tmp 6) (.tmp 35) (by rfl) ?_;refine wpList_put (by rfl) 31 (.tmp 6) (.tmp 35) (by rfl) w6.heap.size 0 (.agg #[.slice L6 0 cl6,.bool false,.int .i64 0,.slice T6 0 tc6]) (by rfl) (by rfl) 31 #[.slice none 0 0,.bool false,.int .i64 0,.slice none 0 0] #[.slice L6 0 cl6,.bool false,.int .i64 0,.slice T6 0 tc6] (K6b.out.row 0 rfl) (by simp[Value.cells]) (by kernel_rfl) infoc_U (by kernel_rfl) ?_;intro w7 hrow hoth hz hbl;have K7:=Lib.hid (K6b.out.turn 0 rfl hrow hoth hz);have G7:Hid (Below w.heap.size w w7):=Lib.hid (hbl _ _ (by omega) G6b.out);clear hrow hoth hz hbl K6b G6b)
  | (refine at_load 24 (.tmp 1) (by rfl) ?_;refine wpListG_row (by rfl) 24 (.tmp 1) (by rfl) w.heap.size (by rfl) 24 #[.int .i64 100,.slice none 0 0] _ (K7.out.row 3 rfl) Tryz.underlying24 (by rfl) infoc_T ?_)
  | (go_at_call 8;(with_reducible refine(z_call _ K7.out [130,32] #[.int .u8 130,.int .u8 32] rfl 2 rfl (by omega) (A:=none) (k:=0) (c:=0) (xs:=[]) (by simp) (fun _=>rfl) (by simp[HS.out]) (by simp[HR.out]) (by simp[HM.out]) (by decide) z_d rfl rfl).mono ?_);rintro e w8 ⟨L8,cl8,T8,tc8,rfl,hb,hE,hcl8,htc8⟩;have K8:=Lib.hid hE;have G8:Hid (Below w.heap.size w w8):=Lib.hid (below_step G7.out hb);have HT8:=Lib.hid htc8;clear hb hE hcl8 htc8 G7;have K8b:=Lib.hid (K8.out.boxg 31 #[.slice none 0 0,.bool false,.int .i64 0,.slice none 0 0] w8.heap.size rfl);have hz8:w.heap.size≤w8.heap.size:=G8.out.size;have G8b:=Lib.hid (G8.out.alloc hz8 (.cells #[.slice none 0 0,.bool false,.int .i64 0,.slice none 0 0] 31));clear K8 G8)
  | (refine at_store 31 (.tmp 8) (.tmp 41) (by rfl) ?_;refine wpList_put (by rfl) 31 (.tmp 8) (.tmp 41) (by rfl) w8.heap.size 0 (.agg #[.slice L8 0 cl8,.bool false,.int .i64 0,.slice T8 0 tc8]) (by rfl) (by rfl) 31 #[.slice none 0 0,.bool false,.int .i64 0,.slice none 0 0] #[.slice L8 0 cl8,.bool false,.int .i64 0,.slice T8 0 tc8] (K8b.out.row 0 rfl) (by simp[Value.cells]) (by kernel_rfl) infoc_U (by kernel_rfl) ?_;intro w9 hrow hoth hz hbl;have K9:=Lib.hid (K8b.out.turn 0 rfl hrow hoth hz);have G9:Hid (Below w.heap.size w w9):=Lib.hid (hbl _ _ (by omega) G8b.out);clear hrow hoth hz hbl K8b G8b)
  | (refine at_load 24 (.tmp 44) (by rfl) ?_;refine wpList_part (by rfl) 24 (.tmp 44) (by rfl) w4.heap.size 2 (by rfl) 31 #[.slice L4 1 cl4,.bool false,.int .i64 100,.slice T4 1 tc4] #[.int .i64 100,.slice T4 1 tc4] _ (K9.out.row 2 rfl) (part2 (by rfl) (by rfl)) Tryz.underlying24 (by rfl) infoc_T ?_)
  | (go_at_call 8;(with_reducible refine(z_call _ K9.out [32] #[.int .u8 32] rfl 1 rfl (by omega) (A:=T4) (k:=1) (c:=tc4) (xs:=[ga]) (by simp) HT4.out (by simp[HS.out]) (by simp[HR.out]) (by simp[HM.out]) (by decide) z_e rfl rfl).mono ?_);rintro e w10 ⟨L10,cl10,T10,tc10,rfl,hb,hE,hcl10,htc10⟩;have K10:=Lib.hid hE;have G10:Hid (Below w.heap.size w w10):=Lib.hid (below_step G9.out hb);have HT10:=Lib.hid htc10;clear hb hE hcl10 htc10 G9;have K10b:=Lib.hid (K10.out.boxg 31 #[.slice none 0 0,.bool false,.int .i64 0,.slice none 0 0] w10.heap.size rfl);have hz10:w.heap.size≤w10.heap.size:=G10.out.size;have G10b:=Lib.hid (G10.out.alloc hz10 (.cells #[.slice none 0 0,.bool false,.int .i64 0,.slice none 0 0] 31));clear K10 G10)
  | (refine at_store 31 (.tmp 10) (.tmp 48) (by rfl) ?_;refine wpList_put (by rfl) 31 (.tmp 10) (.tmp 48) (by rfl) w10.heap.size 0 (.agg #[.slice L10 0 cl10,.bool false,.int .i64 0,.slice T10 0 tc10]) (by rfl) (by rfl) 31 #[.slice none 0 0,.bool false,.int .i64 0,.slice none 0 0] #[.slice L10 0 cl10,.bool false,.int .i64 0,.slice T10 0 tc10] (K10b.out.row 0 rfl) (by simp[Value.cells]) (by kernel_rfl) infoc_U (by kernel_rfl) ?_;intro w11 hrow hoth hz hbl;have K11:=Lib.hid (K10b.out.turn 0 rfl hrow hoth hz);have G11:Hid (Below w.heap.size w w11):=Lib.hid (hbl _ _ (by omega) G10b.out);clear hrow hoth hz hbl K10b G10b)
  | (refine at_load 24 (.tmp 1) (by rfl) ?_;refine wpListG_row (by rfl) 24 (.tmp 1) (by rfl) w.heap.size (by rfl) 24 #[.int .i64 100,.slice none 0 0] _ (K11.out.row 5 rfl) Tryz.underlying24 (by rfl) infoc_T ?_)
  | (go_at_call 8;(with_reducible refine(z_call _ K11.out [63,70] #[.int .u8 63,.int .u8 70] rfl 2 rfl (by omega) (A:=none) (k:=0) (c:=0) (xs:=[]) (by simp) (fun _=>rfl) (by simp[HS.out]) (by simp[HR.out]) (by simp[HM.out]) (by decide) z_f rfl rfl).mono ?_);rintro e w12 ⟨L12,cl12,T12,tc12,rfl,hb,hE,hcl12,htc12⟩;have K12:=Lib.hid hE;have G12:Hid (Below w.heap.size w w12):=Lib.hid (below_step G11.out hb);have HT12:=Lib.hid htc12;clear hb hE hcl12 htc12 G11;have K12b:=Lib.hid (K12.out.boxg 31 #[.slice none 0 0,.bool false,.int .i64 0,.slice none 0 0] w12.heap.size rfl);have hz12:w.heap.size≤w12.heap.size:=G12.out.size;have G12b:=Lib.hid (G12.out.alloc hz12 (.cells #[.slice none 0 0,.bool false,.int .i64 0,.slice none 0 0] 31));clear K12 G12)
  | (refine at_store 31 (.tmp 12) (.tmp 54) (by rfl) ?_;refine wpList_put (by rfl) 31 (.tmp 12) (.tmp 54) (by rfl) w12.heap.size 0 (.agg #[.slice L12 0 cl12,.bool false,.int .i64 0,.slice T12 0 tc12]) (by rfl) (by rfl) 31 #[.slice none 0 0,.bool false,.int .i64 0,.slice none 0 0] #[.slice L12 0 cl12,.bool false,.int .i64 0,.slice T12 0 tc12] (K12b.out.row 0 rfl) (by simp[Value.cells]) (by kernel_rfl) infoc_U (by kernel_rfl) ?_;intro w13 hrow hoth hz hbl;have K13:=Lib.hid (K12b.out.turn 0 rfl hrow hoth hz);have G13:Hid (Below w.heap.size w w13):=Lib.hid (hbl _ _ (by omega) G12b.out);clear hrow hoth hz hbl K12b G12b)
  | (go_at_call 11;(with_reducible refine(z_idx _ (Up.EnvF.mks K13.out (by simp[HM.out]))).mono ?_);rintro e w14 ⟨Ax,cx,rfl,hh,hb⟩;have K14:=Lib.hid ((K13.out).handS hb hh);have G14:Hid (Below w.heap.size w w14):=Lib.hid (below_step G13.out hb);clear hb hh K13 G13)
  | (go_at_call 15;(with_reducible refine(z_nam _ K14.out (by simp[HR.out]) (by simp[HM.out])).mono ?_);rintro e w15 ⟨Ay,cy,rfl,hh,hb⟩;have K15:=Lib.hid ((K14.out).handS hb hh);have G15:Hid (Below w.heap.size w w15):=Lib.hid (below_step G14.out hb);clear hb hh K14 G14;refine Hid.out ?_))
 refine Lib.hid ?_
 obtain⟨b1,o1,rfl,hl1,-,-⟩:=fs_one (K15.out.fs (A:=L2) (n:=1) (xs:=[gpost]) (by simp))
 obtain⟨b2,o2,rfl,hl2,-,-⟩:=fs_one (K15.out.fs (A:=L4) (n:=1) (xs:=[ga]) (by simp))
 obtain⟨b3,o3,rfl,hl3,-,-⟩:=fs_one (K15.out.fs (A:=T4) (n:=1) (xs:=[ga]) (by simp))
 obtain⟨ua0,ua1,ua2,ua3⟩:=cells4_row (K15.out.row 5 rfl)
 have ula:=K15.out.lt (List.mem_of_getElem? (i:=5) rfl)
 simp only at ula
 obtain⟨ub0,ub1,ub2,ub3⟩:=cells4_row (K15.out.row 4 rfl)
 have ulb:=K15.out.lt (List.mem_of_getElem? (i:=4) rfl)
 simp only at ulb
 obtain⟨uc0,uc1,uc2,uc3⟩:=cells4_row (K15.out.row 1 rfl)
 have ulc:=K15.out.lt (List.mem_of_getElem? (i:=1) rfl)
 simp only at ulc
 obtain⟨d1,d2⟩:=fs_at (K15.out.fs (A:=some ⟨b1,o1,none⟩) (n:=1) (xs:=[gpost]) (by simp))
 obtain⟨d5,d6⟩:=fs_at (K15.out.fs (A:=some ⟨b3,o3,none⟩) (n:=1) (xs:=[ga]) (by simp))
 obtain⟨d3,d4⟩:=fs_at (K15.out.fs (A:=some ⟨b2,o2,none⟩) (n:=1) (xs:=[ga]) (by simp))
 have S15:Hid (w15.cell? ⟨w2.heap.size,0,none⟩=some (.slice (some ⟨b1,o1,none⟩) 1 cl2)∧w15.cell? ⟨w2.heap.size,1,none⟩=some (.bool false)∧w15.cell? ⟨w2.heap.size,2,none⟩=some (.int .i64 100)∧w15.cell? ⟨w2.heap.size,3,none⟩=some (.slice T2 0 tc2)∧w15.cell? ⟨w4.heap.size,0,none⟩=some (.slice (some ⟨b2,o2,none⟩) 1 cl4)∧w15.cell? ⟨w4.heap.size,1,none⟩=some (.bool false)∧w15.cell? ⟨w4.heap.size,2,none⟩=some (.int .i64 100)∧w15.cell? ⟨w4.heap.size,3,none⟩=some (.slice (some ⟨b3,o3,none⟩) 1 tc4)∧w15.cell? ⟨w10.heap.size,2,none⟩=some (.int .i64 0)∧w15.cell? ⟨w10.heap.size,3,none⟩=some (.slice T10 0 tc10)∧w15.cell? ⟨b1,o1,none⟩=some (.string ⟨#[58,109,101,116,104,111,100]⟩)∧w15.cell? ⟨b1,o1+1,none⟩=some (.string ⟨#[80,79,83,84]⟩)∧w15.cell? ⟨b2,o2,none⟩=some (.string ⟨#[97]⟩)∧w15.cell? ⟨b2,o2+1,none⟩=some (.string ⟨#[49]⟩)∧w15.cell? ⟨b3,o3,none⟩=some (.string ⟨#[97]⟩)∧w15.cell? ⟨b3,o3+1,none⟩=some (.string ⟨#[49]⟩)):=Lib.hid ⟨ua0,ua1,ua2,ua3,ub0,ub1,ub2,ub3,uc2,uc3,d1,d2,d3,d4,d5,d6⟩
 have S15a:Hid (∀ob:Obj,(w15.alloc ob).cell? ⟨w2.heap.size,0,none⟩=some (.slice (some ⟨b1,o1,none⟩) 1 cl2)∧(w15.alloc ob).cell? ⟨w2.heap.size,1,none⟩=some (.bool false)∧(w15.alloc ob).cell? ⟨w2.heap.size,2,none⟩=some (.int .i64 100)∧(w15.alloc ob).cell? ⟨w2.heap.size,3,none⟩=some (.slice T2 0 tc2)∧(w15.alloc ob).cell? ⟨w4.heap.size,0,none⟩=some (.slice (some ⟨b2,o2,none⟩) 1 cl4)∧(w15.alloc ob).cell? ⟨w4.heap.size,1,none⟩=some (.bool false)∧(w15.alloc ob).cell? ⟨w4.heap.size,2,none⟩=some (.int .i64 100)∧(w15.alloc ob).cell? ⟨w4.heap.size,3,none⟩=some (.slice (some ⟨b3,o3,none⟩) 1 tc4)∧(w15.alloc ob).cell? ⟨w10.heap.size,2,none⟩=some (.int .i64 0)∧(w15.alloc ob).cell? ⟨w10.heap.size,3,none⟩=some (.slice T10 0 tc10)∧(w15.alloc ob).cell? ⟨b1,o1,none⟩=some (.string ⟨#[58,109,101,116,104,111,100]⟩)∧(w15.alloc ob).cell? ⟨b1,o1+1,none⟩=some (.string ⟨#[80,79,83,84]⟩)∧(w15.alloc ob).cell? ⟨b2,o2,none⟩=some (.string ⟨#[97]⟩)∧(w15.alloc ob).cell? ⟨b2,o2+1,none⟩=some (.string ⟨#[49]⟩)∧(w15.alloc ob).cell? ⟨b3,o3,none⟩=some (.string ⟨#[97]⟩)∧(w15.alloc ob).cell? ⟨b3,o3+1,none⟩=some (.string ⟨#[49]⟩)):=Lib.hid (fun ob=>⟨kept_al ua0,kept_al ua1,kept_al ua2,kept_al ua3,kept_al ub0,kept_al ub1,kept_al ub2,kept_al ub3,kept_al uc2,kept_al uc3,kept_al d1,kept_al d2,kept_al d3,kept_al d4,kept_al d5,kept_al d6⟩)
 go_wp2
 refine wp_region_noPanic ?_
 refine wp_region_held_drew (S:=(fun W'=>W'.cell? ⟨w2.heap.size,0,none⟩=some (.slice (some ⟨b1,o1,none⟩) 1 cl2)∧W'.cell? ⟨w2.heap.size,1,none⟩=some (.bool false)∧W'.cell? ⟨w2.heap.size,2,none⟩=some (.int .i64 100)∧W'.cell? ⟨w2.heap.size,3,none⟩=some (.slice T2 0 tc2)∧W'.cell? ⟨w4.heap.size,0,none⟩=some (.slice (some ⟨b2,o2,none⟩) 1 cl4)∧W'.cell? ⟨w4.heap.size,1,none⟩=some (.bool false)∧W'.cell? ⟨w4.heap.size,2,none⟩=some (.int .i64 100)∧W'.cell? ⟨w4.heap.size,3,none⟩=some (.slice (some ⟨b3,o3,none⟩) 1 tc4)∧W'.cell? ⟨w10.heap.size,2,none⟩=some (.int .i64 0)∧W'.cell? ⟨w10.heap.size,3,none⟩=some (.slice T10 0 tc10)∧W'.cell? ⟨b1,o1,none⟩=some (.string ⟨#[58,109,101,116,104,111,100]⟩)∧W'.cell? ⟨b1,o1+1,none⟩=some (.string ⟨#[80,79,83,84]⟩)∧W'.cell? ⟨b2,o2,none⟩=some (.string ⟨#[97]⟩)∧W'.cell? ⟨b2,o2+1,none⟩=some (.string ⟨#[49]⟩)∧W'.cell? ⟨b3,o3,none⟩=some (.string ⟨#[97]⟩)∧W'.cell? ⟨b3,o3+1,none⟩=some (.string ⟨#[49]⟩))) (by kernel_rfl) ?_ (fun h0=>?_)
 ·(try dsimp only)
  (first
   | exact S20.out
   | exact S19.out
   | exact S18.out
   | exact S17.out
   | exact S16a.out _
   | exact S16.out
   | exact S15a.out _
   | exact S15.out)
 refine oneD (i:=0) (v:=?_) rfl (by as_aux_lemma=>kernel_rfl) (Or.inl ⟨by rfl,?_⟩) h0 ?_
 rotate_left
 ·intro w hSw;(try dsimp only at hSw);go_simp<;>with_reducible rfl
 try simp only[Act.put,List.setIfInBounds_toArray,List.set_cons_zero,List.set_cons_succ]
 refine oneD (i:=1) (v:=?_) rfl (by as_aux_lemma=>kernel_rfl) (Or.inl ⟨by rfl,?_⟩) h0 ?_
 rotate_left
 ·intro w hSw;(try dsimp only at hSw);go_simp<;>with_reducible rfl
 try simp only[Act.put,List.setIfInBounds_toArray,List.set_cons_zero,List.set_cons_succ]
 refine oneD (i:=2) (v:=?_) rfl (by as_aux_lemma=>kernel_rfl) (Or.inl ⟨by rfl,?_⟩) h0 ?_
 rotate_left
 ·intro w hSw;(try dsimp only at hSw);go_simp<;>with_reducible rfl
 try simp only[Act.put,List.setIfInBounds_toArray,List.set_cons_zero,List.set_cons_succ]
 refine takeD (i:=3) (v:=?_) rfl (by as_aux_lemma=>kernel_rfl) (by as_aux_lemma=>kernel_rfl) (by as_aux_lemma=>kernel_rfl) (fun _ _ _ h=>h) (Or.inl ⟨by rfl,?_⟩) h0 ?_
 rotate_left
 ·intro w hSw;(try dsimp only at hSw);go_simp<;>with_reducible rfl
 try simp only[Act.put,List.setIfInBounds_toArray,List.set_cons_zero,List.set_cons_succ]
 refine takeD (i:=4) (v:=?_) rfl (by as_aux_lemma=>kernel_rfl) (by as_aux_lemma=>kernel_rfl) (by as_aux_lemma=>kernel_rfl) (fun _ _ _ h=>h) (Or.inl ⟨by rfl,?_⟩) h0 ?_
 rotate_left
 ·intro w hSw;(try dsimp only at hSw);go_simp<;>with_reducible rfl
 try simp only[Act.put,List.setIfInBounds_toArray,List.set_cons_zero,List.set_cons_succ]
 refine takeD (i:=5) (v:=?_) rfl (by as_aux_lemma=>kernel_rfl) (by as_aux_lemma=>kernel_rfl) (by as_aux_lemma=>kernel_rfl) (fun _ _ _ h=>h) (Or.inl ⟨by rfl,?_⟩) h0 ?_
 rotate_left
 ·intro w hSw;(try dsimp only at hSw);go_simp<;>with_reducible rfl
 try simp only[Act.put,List.setIfInBounds_toArray,List.set_cons_zero,List.set_cons_succ]
 refine takeD (i:=6) (v:=?_) rfl (by as_aux_lemma=>kernel_rfl) (by as_aux_lemma=>kernel_rfl) (by as_aux_lemma=>kernel_rfl) (fun _ _ _ h=>h) (Or.inl ⟨by rfl,?_⟩) h0 ?_
 rotate_left
 ·intro w hSw;(try dsimp only at hSw);go_simp<;>with_reducible rfl
 try simp only[Act.put,List.setIfInBounds_toArray,List.set_cons_zero,List.set_cons_succ]
 refine oneD (i:=7) (v:=?_) rfl (by as_aux_lemma=>kernel_rfl) (Or.inl ⟨by rfl,?_⟩) h0 ?_
 rotate_left
 ·intro w hSw;(try dsimp only at hSw);go_simp<;>with_reducible rfl
 try simp only[Act.put,List.setIfInBounds_toArray,List.set_cons_zero,List.set_cons_succ]
 refine oneD (i:=8) (v:=?_) rfl (by as_aux_lemma=>kernel_rfl) (Or.inl ⟨by rfl,?_⟩) h0 ?_
 rotate_left
 ·intro w hSw;(try dsimp only at hSw);go_simp<;>with_reducible rfl
 try simp only[Act.put,List.setIfInBounds_toArray,List.set_cons_zero,List.set_cons_succ]
 refine oneD (i:=9) (v:=?_) rfl (by as_aux_lemma=>kernel_rfl) (Or.inl ⟨by rfl,?_⟩) h0 ?_
 rotate_left
 ·intro w hSw;(try dsimp only at hSw);go_simp<;>with_reducible rfl
 try simp only[Act.put,List.setIfInBounds_toArray,List.set_cons_zero,List.set_cons_succ]
 refine oneD (i:=10) (v:=?_) rfl (by as_aux_lemma=>kernel_rfl) (Or.inl ⟨by rfl,?_⟩) h0 ?_
 rotate_left
 ·intro w hSw;(try dsimp only at hSw);go_simp<;>with_reducible rfl
 try simp only[Act.put,List.setIfInBounds_toArray,List.set_cons_zero,List.set_cons_succ]
 refine oneD (i:=11) (v:=?_) rfl (by as_aux_lemma=>kernel_rfl) (Or.inl ⟨by rfl,?_⟩) h0 ?_
 rotate_left
 ·intro w hSw;(try dsimp only at hSw);go_simp<;>with_reducible rfl
 try simp only[Act.put,List.setIfInBounds_toArray,List.set_cons_zero,List.set_cons_succ]
 refine oneD (i:=12) (v:=?_) rfl (by as_aux_lemma=>kernel_rfl) (Or.inl ⟨by rfl,?_⟩) h0 ?_
 rotate_left
 ·intro w hSw;(try dsimp only at hSw);go_simp<;>with_reducible rfl
 try simp only[Act.put,List.setIfInBounds_toArray,List.set_cons_zero,List.set_cons_succ]
 refine oneD (i:=13) (v:=?_) rfl (by as_aux_lemma=>kernel_rfl) (Or.inl ⟨by rfl,?_⟩) h0 ?_
 rotate_left
 ·intro w hSw;(try dsimp only at hSw);go_simp<;>with_reducible rfl
 try simp only[Act.put,List.setIfInBounds_toArray,List.set_cons_zero,List.set_cons_succ]
 refine oneD (i:=14) (v:=?_) rfl (by as_aux_lemma=>kernel_rfl) (Or.inl ⟨by rfl,?_⟩) h0 ?_
 rotate_left
 ·intro w hSw;(try dsimp only at hSw);go_simp<;>with_reducible rfl
 try simp only[Act.put,List.setIfInBounds_toArray,List.set_cons_zero,List.set_cons_succ]
 refine takeD (i:=15) (v:=?_) rfl (by as_aux_lemma=>kernel_rfl) (by as_aux_lemma=>kernel_rfl) (by as_aux_lemma=>kernel_rfl) (fun _ _ _ h=>h) (Or.inl ⟨by rfl,?_⟩) h0 ?_
 rotate_left
 ·intro w hSw;(try dsimp only at hSw);go_simp<;>with_reducible rfl
 try simp only[Act.put,List.setIfInBounds_toArray,List.set_cons_zero,List.set_cons_succ]
 refine takeD (i:=16) (v:=?_) rfl (by as_aux_lemma=>kernel_rfl) (by as_aux_lemma=>kernel_rfl) (by as_aux_lemma=>kernel_rfl) (fun _ _ _ h=>h) (Or.inl ⟨by rfl,?_⟩) h0 ?_
 rotate_left
 ·intro w hSw;(try dsimp only at hSw);go_simp<;>with_reducible rfl
 try simp only[Act.put,List.setIfInBounds_toArray,List.set_cons_zero,List.set_cons_succ]
 refine takeD (i:=17) (v:=?_) rfl (by as_aux_lemma=>kernel_rfl) (by as_aux_lemma=>kernel_rfl) (by as_aux_lemma=>kernel_rfl) (fun _ _ _ h=>h) (Or.inl ⟨by rfl,?_⟩) h0 ?_
 rotate_left
 ·intro w hSw;(try dsimp only at hSw);go_simp<;>with_reducible rfl
 try simp only[Act.put,List.setIfInBounds_toArray,List.set_cons_zero,List.set_cons_succ]
 refine takeD (i:=18) (v:=?_) rfl (by as_aux_lemma=>kernel_rfl) (by as_aux_lemma=>kernel_rfl) (by as_aux_lemma=>kernel_rfl) (fun _ _ _ h=>h) (Or.inl ⟨by rfl,?_⟩) h0 ?_
 rotate_left
 ·intro w hSw;(try dsimp only at hSw);go_simp<;>with_reducible rfl
 try simp only[Act.put,List.setIfInBounds_toArray,List.set_cons_zero,List.set_cons_succ]
 refine oneD (i:=19) (v:=?_) rfl (by as_aux_lemma=>kernel_rfl) (Or.inl ⟨by rfl,?_⟩) h0 ?_
 rotate_left
 ·intro w hSw;(try dsimp only at hSw);go_simp<;>with_reducible rfl
 try simp only[Act.put,List.setIfInBounds_toArray,List.set_cons_zero,List.set_cons_succ]
 refine oneD (i:=20) (v:=?_) rfl (by as_aux_lemma=>kernel_rfl) (Or.inl ⟨by rfl,?_⟩) h0 ?_
 rotate_left
 ·intro w hSw;(try dsimp only at hSw);go_simp<;>with_reducible rfl
 try simp only[Act.put,List.setIfInBounds_toArray,List.set_cons_zero,List.set_cons_succ]
 refine oneD (i:=21) (v:=?_) rfl (by as_aux_lemma=>kernel_rfl) (Or.inl ⟨by rfl,?_⟩) h0 ?_
 rotate_left
 ·intro w hSw;(try dsimp only at hSw);go_simp<;>with_reducible rfl
 try simp only[Act.put,List.setIfInBounds_toArray,List.set_cons_zero,List.set_cons_succ]
 refine oneD (i:=22) (v:=?_) rfl (by as_aux_lemma=>kernel_rfl) (Or.inl ⟨by rfl,?_⟩) h0 ?_
 rotate_left
 ·intro w hSw;(try dsimp only at hSw);go_simp<;>with_reducible rfl
 try simp only[Act.put,List.setIfInBounds_toArray,List.set_cons_zero,List.set_cons_succ]
 refine takeD (i:=23) (v:=?_) rfl (by as_aux_lemma=>kernel_rfl) (by as_aux_lemma=>kernel_rfl) (by as_aux_lemma=>kernel_rfl) (fun _ _ _ h=>h) (Or.inl ⟨by rfl,?_⟩) h0 ?_
 rotate_left
 ·intro w hSw;(try dsimp only at hSw);go_simp<;>with_reducible rfl
 try simp only[Act.put,List.setIfInBounds_toArray,List.set_cons_zero,List.set_cons_succ]
 refine takeD (i:=24) (v:=?_) rfl (by as_aux_lemma=>kernel_rfl) (by as_aux_lemma=>kernel_rfl) (by as_aux_lemma=>kernel_rfl) (fun _ _ _ h=>h) (Or.inl ⟨by rfl,?_⟩) h0 ?_
 rotate_left
 ·intro w hSw;(try dsimp only at hSw);go_simp<;>with_reducible rfl
 try simp only[Act.put,List.setIfInBounds_toArray,List.set_cons_zero,List.set_cons_succ]
 refine takeD (i:=25) (v:=?_) rfl (by as_aux_lemma=>kernel_rfl) (by as_aux_lemma=>kernel_rfl) (by as_aux_lemma=>kernel_rfl) (fun _ _ _ h=>h) (Or.inl ⟨by rfl,?_⟩) h0 ?_
 rotate_left
 ·intro w hSw;(try dsimp only at hSw);go_simp<;>with_reducible rfl
 try simp only[Act.put,List.setIfInBounds_toArray,List.set_cons_zero,List.set_cons_succ]
 refine takeD (i:=26) (v:=?_) rfl (by as_aux_lemma=>kernel_rfl) (by as_aux_lemma=>kernel_rfl) (by as_aux_lemma=>kernel_rfl) (fun _ _ _ h=>h) (Or.inl ⟨by rfl,?_⟩) h0 ?_
 rotate_left
 ·intro w hSw;(try dsimp only at hSw);go_simp<;>with_reducible rfl
 try simp only[Act.put,List.setIfInBounds_toArray,List.set_cons_zero,List.set_cons_succ]
 refine takeD (i:=27) (v:=?_) rfl (by as_aux_lemma=>kernel_rfl) (by as_aux_lemma=>kernel_rfl) (by as_aux_lemma=>kernel_rfl) (fun _ _ _ h=>h) (Or.inl ⟨by rfl,?_⟩) h0 ?_
 rotate_left
 ·intro w hSw;(try dsimp only at hSw);go_simp<;>with_reducible rfl
 try simp only[Act.put,List.setIfInBounds_toArray,List.set_cons_zero,List.set_cons_succ]
 refine oneD (i:=28) (v:=?_) rfl (by as_aux_lemma=>kernel_rfl) (Or.inl ⟨by rfl,?_⟩) h0 ?_
 rotate_left
 ·intro w hSw;(try dsimp only at hSw);go_simp<;>with_reducible rfl
 try simp only[Act.put,List.setIfInBounds_toArray,List.set_cons_zero,List.set_cons_succ]
 refine oneD (i:=29) (v:=?_) rfl (by as_aux_lemma=>kernel_rfl) (Or.inl ⟨by rfl,?_⟩) h0 ?_
 rotate_left
 ·intro w hSw;(try dsimp only at hSw);go_simp<;>with_reducible rfl
 try simp only[Act.put,List.setIfInBounds_toArray,List.set_cons_zero,List.set_cons_succ]
 refine oneD (i:=30) (v:=?_) rfl (by as_aux_lemma=>kernel_rfl) (Or.inl ⟨by rfl,?_⟩) h0 ?_
 rotate_left
 ·intro w hSw;(try dsimp only at hSw);go_simp<;>with_reducible rfl
 try simp only[Act.put,List.setIfInBounds_toArray,List.set_cons_zero,List.set_cons_succ]
 refine oneD (i:=31) (v:=?_) rfl (by as_aux_lemma=>kernel_rfl) (Or.inl ⟨by rfl,?_⟩) h0 ?_
 rotate_left
 ·intro w hSw;(try dsimp only at hSw);go_simp<;>with_reducible rfl
 try simp only[Act.put,List.setIfInBounds_toArray,List.set_cons_zero,List.set_cons_succ]
 refine oneD (i:=32) (v:=?_) rfl (by as_aux_lemma=>kernel_rfl) (Or.inl ⟨by rfl,?_⟩) h0 ?_
 rotate_left
 ·intro w hSw;(try dsimp only at hSw);go_simp<;>with_reducible rfl
 try simp only[Act.put,List.setIfInBounds_toArray,List.set_cons_zero,List.set_cons_succ]
 refine oneD (i:=33) (v:=?_) rfl (by as_aux_lemma=>kernel_rfl) (Or.inl ⟨by rfl,?_⟩) h0 ?_
 rotate_left
 ·intro w hSw;(try dsimp only at hSw);go_simp<;>with_reducible rfl
 try simp only[Act.put,List.setIfInBounds_toArray,List.set_cons_zero,List.set_cons_succ]
 refine oneD (i:=34) (v:=?_) rfl (by as_aux_lemma=>kernel_rfl) (Or.inl ⟨by rfl,?_⟩) h0 ?_
 rotate_left
 ·intro w hSw;(try dsimp only at hSw);go_simp<;>with_reducible rfl
 try simp only[Act.put,List.setIfInBounds_toArray,List.set_cons_zero,List.set_cons_succ]
 refine oneD (i:=35) (v:=?_) rfl (by as_aux_lemma=>kernel_rfl) (Or.inl ⟨by rfl,?_⟩) h0 ?_
 rotate_left
 ·intro w hSw;(try dsimp only at hSw);go_simp<;>with_reducible rfl
 try simp only[Act.put,List.setIfInBounds_toArray,List.set_cons_zero,List.set_cons_succ]
 refine oneD (i:=36) (v:=?_) rfl (by as_aux_lemma=>kernel_rfl) (Or.inl ⟨by rfl,?_⟩) h0 ?_
 rotate_left
 ·intro w hSw;(try dsimp only at hSw);go_simp<;>with_reducible rfl
 try simp only[Act.put,List.setIfInBounds_toArray,List.set_cons_zero,List.set_cons_succ]
 refine oneD (i:=37) (v:=?_) rfl (by as_aux_lemma=>kernel_rfl) (Or.inl ⟨by rfl,?_⟩) h0 ?_
 rotate_left
 ·intro w hSw;(try dsimp only at hSw);go_simp<;>with_reducible rfl
 try simp only[Act.put,List.setIfInBounds_toArray,List.set_cons_zero,List.set_cons_succ]
 refine oneD (i:=38) (v:=?_) rfl (by as_aux_lemma=>kernel_rfl) (Or.inl ⟨by rfl,?_⟩) h0 ?_
 rotate_left
 ·intro w hSw;(try dsimp only at hSw);go_simp<;>with_reducible rfl
 try simp only[Act.put,List.setIfInBounds_toArray,List.set_cons_zero,List.set_cons_succ]
 refine oneD (i:=39) (v:=?_) rfl (by as_aux_lemma=>kernel_rfl) (Or.inl ⟨by rfl,?_⟩) h0 ?_
 rotate_left
 ·intro w hSw;(try dsimp only at hSw);go_simp<;>with_reducible rfl
 try simp only[Act.put,List.setIfInBounds_toArray,List.set_cons_zero,List.set_cons_succ]
 refine oneD (i:=40) (v:=?_) rfl (by as_aux_lemma=>kernel_rfl) (Or.inl ⟨by rfl,?_⟩) h0 ?_
 rotate_left
 ·intro w hSw;(try dsimp only at hSw);go_simp<;>with_reducible rfl
 try simp only[Act.put,List.setIfInBounds_toArray,List.set_cons_zero,List.set_cons_succ]
 refine oneD (i:=41) (v:=?_) rfl (by as_aux_lemma=>kernel_rfl) (Or.inl ⟨by rfl,?_⟩) h0 ?_
 rotate_left
 ·intro w hSw;(try dsimp only at hSw);go_simp<;>with_reducible rfl
 try simp only[Act.put,List.setIfInBounds_toArray,List.set_cons_zero,List.set_cons_succ]
 refine oneD (i:=42) (v:=?_) rfl (by as_aux_lemma=>kernel_rfl) (Or.inl ⟨by rfl,?_⟩) h0 ?_
 rotate_left
 ·intro w hSw;(try dsimp only at hSw);go_simp<;>with_reducible rfl
 try simp only[Act.put,List.setIfInBounds_toArray,List.set_cons_zero,List.set_cons_succ]
 refine oneD (i:=43) (v:=?_) rfl (by as_aux_lemma=>kernel_rfl) (Or.inl ⟨by rfl,?_⟩) h0 ?_
 rotate_left
 ·intro w hSw;(try dsimp only at hSw);go_simp<;>with_reducible rfl
 try simp only[Act.put,List.setIfInBounds_toArray,List.set_cons_zero,List.set_cons_succ]
 refine oneD (i:=44) (v:=?_) rfl (by as_aux_lemma=>kernel_rfl) (Or.inl ⟨by rfl,?_⟩) h0 ?_
 rotate_left
 ·intro w hSw;(try dsimp only at hSw);go_simp<;>with_reducible rfl
 try simp only[Act.put,List.setIfInBounds_toArray,List.set_cons_zero,List.set_cons_succ]
 refine oneD (i:=45) (v:=?_) rfl (by as_aux_lemma=>kernel_rfl) (Or.inl ⟨by rfl,?_⟩) h0 ?_
 rotate_left
 ·intro w hSw;(try dsimp only at hSw);go_simp<;>with_reducible rfl
 try simp only[Act.put,List.setIfInBounds_toArray,List.set_cons_zero,List.set_cons_succ]
 refine oneD (i:=46) (v:=?_) rfl (by as_aux_lemma=>kernel_rfl) (Or.inl ⟨by rfl,?_⟩) h0 ?_
 rotate_left
 ·intro w hSw;(try dsimp only at hSw);go_simp<;>with_reducible rfl
 try simp only[Act.put,List.setIfInBounds_toArray,List.set_cons_zero,List.set_cons_succ]
 refine oneD (i:=47) (v:=?_) rfl (by as_aux_lemma=>kernel_rfl) (Or.inl ⟨by rfl,?_⟩) h0 ?_
 rotate_left
 ·intro w hSw;(try dsimp only at hSw);go_simp<;>with_reducible rfl
 try simp only[Act.put,List.setIfInBounds_toArray,List.set_cons_zero,List.set_cons_succ]
 refine oneD (i:=48) (v:=?_) rfl (by as_aux_lemma=>kernel_rfl) (Or.inl ⟨by rfl,?_⟩) h0 ?_
 rotate_left
 ·intro w hSw;(try dsimp only at hSw);go_simp<;>with_reducible rfl
 try simp only[Act.put,List.setIfInBounds_toArray,List.set_cons_zero,List.set_cons_succ]
 refine oneD (i:=49) (v:=?_) rfl (by as_aux_lemma=>kernel_rfl) (Or.inl ⟨by rfl,?_⟩) h0 ?_
 rotate_left
 ·intro w hSw;(try dsimp only at hSw);go_simp<;>with_reducible rfl
 try simp only[Act.put,List.setIfInBounds_toArray,List.set_cons_zero,List.set_cons_succ]
 refine oneD (i:=50) (v:=?_) rfl (by as_aux_lemma=>kernel_rfl) (Or.inl ⟨by rfl,?_⟩) h0 ?_
 rotate_left
 ·intro w hSw;(try dsimp only at hSw);go_simp<;>with_reducible rfl
 try simp only[Act.put,List.setIfInBounds_toArray,List.set_cons_zero,List.set_cons_succ]
 refine oneD (i:=51) (v:=?_) rfl (by as_aux_lemma=>kernel_rfl) (Or.inl ⟨by rfl,?_⟩) h0 ?_
 rotate_left
 ·intro w hSw;(try dsimp only at hSw);go_simp<;>with_reducible rfl
 try simp only[Act.put,List.setIfInBounds_toArray,List.set_cons_zero,List.set_cons_succ]
 refine oneD (i:=52) (v:=?_) rfl (by as_aux_lemma=>kernel_rfl) (Or.inl ⟨by rfl,?_⟩) h0 ?_
 rotate_left
 ·intro w hSw;(try dsimp only at hSw);go_simp<;>with_reducible rfl
 try simp only[Act.put,List.setIfInBounds_toArray,List.set_cons_zero,List.set_cons_succ]
 refine oneD (i:=53) (v:=?_) rfl (by as_aux_lemma=>kernel_rfl) (Or.inl ⟨by rfl,?_⟩) h0 ?_
 rotate_left
 ·intro w hSw;(try dsimp only at hSw);go_simp<;>with_reducible rfl
 try simp only[Act.put,List.setIfInBounds_toArray,List.set_cons_zero,List.set_cons_succ]
 refine oneD (i:=54) (v:=?_) rfl (by as_aux_lemma=>kernel_rfl) (Or.inl ⟨by rfl,?_⟩) h0 ?_
 rotate_left
 ·intro w hSw;(try dsimp only at hSw);go_simp<;>with_reducible rfl
 try simp only[Act.put,List.setIfInBounds_toArray,List.set_cons_zero,List.set_cons_succ]
 refine oneD (i:=55) (v:=?_) rfl (by as_aux_lemma=>kernel_rfl) (Or.inl ⟨by rfl,?_⟩) h0 ?_
 rotate_left
 ·intro w hSw;(try dsimp only at hSw);go_simp<;>with_reducible rfl
 try simp only[Act.put,List.setIfInBounds_toArray,List.set_cons_zero,List.set_cons_succ]
 refine oneD (i:=56) (v:=?_) rfl (by as_aux_lemma=>kernel_rfl) (Or.inl ⟨by rfl,?_⟩) h0 ?_
 rotate_left
 ·intro w hSw;(try dsimp only at hSw);go_simp<;>with_reducible rfl
 try simp only[Act.put,List.setIfInBounds_toArray,List.set_cons_zero,List.set_cons_succ]
 refine oneD (i:=57) (v:=?_) rfl (by as_aux_lemma=>kernel_rfl) (Or.inl ⟨by rfl,?_⟩) h0 ?_
 rotate_left
 ·intro w hSw;(try dsimp only at hSw);go_simp<;>with_reducible rfl
 try simp only[Act.put,List.setIfInBounds_toArray,List.set_cons_zero,List.set_cons_succ]
 refine oneD (i:=58) (v:=?_) rfl (by as_aux_lemma=>kernel_rfl) (Or.inl ⟨by rfl,?_⟩) h0 ?_
 rotate_left
 ·intro w hSw;(try dsimp only at hSw);go_simp<;>with_reducible rfl
 try simp only[Act.put,List.setIfInBounds_toArray,List.set_cons_zero,List.set_cons_succ]
 refine oneD (i:=59) (v:=?_) rfl (by as_aux_lemma=>kernel_rfl) (Or.inl ⟨by rfl,?_⟩) h0 ?_
 rotate_left
 ·intro w hSw;(try dsimp only at hSw);go_simp<;>with_reducible rfl
 try simp only[Act.put,List.setIfInBounds_toArray,List.set_cons_zero,List.set_cons_succ]
 refine oneD (i:=60) (v:=?_) rfl (by as_aux_lemma=>kernel_rfl) (Or.inl ⟨by rfl,?_⟩) h0 ?_
 rotate_left
 ·intro w hSw;(try dsimp only at hSw);go_simp<;>with_reducible rfl
 try simp only[Act.put,List.setIfInBounds_toArray,List.set_cons_zero,List.set_cons_succ]
 refine oneD (i:=61) (v:=?_) rfl (by as_aux_lemma=>kernel_rfl) (Or.inl ⟨by rfl,?_⟩) h0 ?_
 rotate_left
 ·intro w hSw;(try dsimp only at hSw);go_simp<;>with_reducible rfl
 try simp only[Act.put,List.setIfInBounds_toArray,List.set_cons_zero,List.set_cons_succ]
 refine oneD (i:=62) (v:=?_) rfl (by as_aux_lemma=>kernel_rfl) (Or.inl ⟨by rfl,?_⟩) h0 ?_
 rotate_left
 ·intro w hSw;(try dsimp only at hSw);go_simp<;>with_reducible rfl
 try simp only[Act.put,List.setIfInBounds_toArray,List.set_cons_zero,List.set_cons_succ]
 refine oneD (i:=63) (v:=?_) rfl (by as_aux_lemma=>kernel_rfl) (Or.inl ⟨by rfl,?_⟩) h0 ?_
 rotate_left
 ·intro w hSw;(try dsimp only at hSw);go_simp<;>with_reducible rfl
 try simp only[Act.put,List.setIfInBounds_toArray,List.set_cons_zero,List.set_cons_succ]
 refine oneD (i:=64) (v:=?_) rfl (by as_aux_lemma=>kernel_rfl) (Or.inl ⟨by rfl,?_⟩) h0 ?_
 rotate_left
 ·intro w hSw;(try dsimp only at hSw);go_simp<;>with_reducible rfl
 try simp only[Act.put,List.setIfInBounds_toArray,List.set_cons_zero,List.set_cons_succ]
 refine oneD (i:=65) (v:=?_) rfl (by as_aux_lemma=>kernel_rfl) (Or.inl ⟨by rfl,?_⟩) h0 ?_
 rotate_left
 ·intro w hSw;(try dsimp only at hSw);go_simp<;>with_reducible rfl
 try simp only[Act.put,List.setIfInBounds_toArray,List.set_cons_zero,List.set_cons_succ]
 refine oneD (i:=66) (v:=?_) rfl (by as_aux_lemma=>kernel_rfl) (Or.inl ⟨by rfl,?_⟩) h0 ?_
 rotate_left
 ·intro w hSw;(try dsimp only at hSw);go_simp<;>with_reducible rfl
 try simp only[Act.put,List.setIfInBounds_toArray,List.set_cons_zero,List.set_cons_succ]
 refine oneD (i:=67) (v:=?_) rfl (by as_aux_lemma=>kernel_rfl) (Or.inl ⟨by rfl,?_⟩) h0 ?_
 rotate_left
 ·intro w hSw;(try dsimp only at hSw);go_simp<;>with_reducible rfl
 try simp only[Act.put,List.setIfInBounds_toArray,List.set_cons_zero,List.set_cons_succ]
 refine takeD (i:=68) (v:=?_) rfl (by as_aux_lemma=>kernel_rfl) (by as_aux_lemma=>kernel_rfl) (by as_aux_lemma=>kernel_rfl) (fun _ _ _ h=>h) (Or.inl ⟨by rfl,?_⟩) h0 ?_
 rotate_left
 ·intro w hSw;(try dsimp only at hSw);go_simp<;>with_reducible rfl
 try simp only[Act.put,List.setIfInBounds_toArray,List.set_cons_zero,List.set_cons_succ]
 refine readyD (i:=69) rfl (by as_aux_lemma=>kernel_rfl) (fun K hK=>?_)
 go_simp
 refine hK.out _ _ ?_ (fun h1=>?_)
 ·(try dsimp only)
  (first
   | exact S20.out
   | exact S19.out
   | exact S18.out
   | exact S17.out
   | exact S16a.out _
   | exact S16.out
   | exact S15a.out _
   | exact S15.out)
 clear hK K h0
 try simp only[Act.put,List.setIfInBounds_toArray,List.set_cons_zero,List.set_cons_succ]
 refine readyD (i:=70) rfl (by as_aux_lemma=>kernel_rfl) (fun K hK=>?_)
 go_simp
 (go_at_call 17;(with_reducible refine(z_same_d _ [130] #[.int .u8 130] rfl 1 rfl (K15.out.bs (A:=Ax) (n:=1) (xs:=[130]) (by simp))).mono ?_);rintro e w16 ⟨rfl,hb⟩;have K16:=Lib.hid (K15.out.on hb);have G16:Hid (Below w.heap.size w w16):=Lib.hid (below_step G15.out hb);clear hb K15 G15 ua0 ua1 ua2 ua3 ub0 ub1 ub2 ub3 uc0 uc1 uc2 uc3 ula ulb ulc d1 d2 d3 d4 d5 d6 hl1 hl2 hl3;obtain⟨ua0,ua1,ua2,ua3⟩:=cells4_row (K16.out.row 5 rfl);have ula:=K16.out.lt (List.mem_of_getElem? (i:=5) rfl);simp only at ula;obtain⟨ub0,ub1,ub2,ub3⟩:=cells4_row (K16.out.row 4 rfl);have ulb:=K16.out.lt (List.mem_of_getElem? (i:=4) rfl);simp only at ulb;obtain⟨uc0,uc1,uc2,uc3⟩:=cells4_row (K16.out.row 1 rfl);have ulc:=K16.out.lt (List.mem_of_getElem? (i:=1) rfl);simp only at ulc;obtain⟨d1,d2⟩:=fs_at (K16.out.fs (A:=some ⟨b1,o1,none⟩) (n:=1) (xs:=[gpost]) (by simp));obtain⟨d5,d6⟩:=fs_at (K16.out.fs (A:=some ⟨b3,o3,none⟩) (n:=1) (xs:=[ga]) (by simp));obtain⟨d3,d4⟩:=fs_at (K16.out.fs (A:=some ⟨b2,o2,none⟩) (n:=1) (xs:=[ga]) (by simp));have S16:Hid (w16.cell? ⟨w2.heap.size,0,none⟩=some (.slice (some ⟨b1,o1,none⟩) 1 cl2)∧w16.cell? ⟨w2.heap.size,1,none⟩=some (.bool false)∧w16.cell? ⟨w2.heap.size,2,none⟩=some (.int .i64 100)∧w16.cell? ⟨w2.heap.size,3,none⟩=some (.slice T2 0 tc2)∧w16.cell? ⟨w4.heap.size,0,none⟩=some (.slice (some ⟨b2,o2,none⟩) 1 cl4)∧w16.cell? ⟨w4.heap.size,1,none⟩=some (.bool false)∧w16.cell? ⟨w4.heap.size,2,none⟩=some (.int .i64 100)∧w16.cell? ⟨w4.heap.size,3,none⟩=some (.slice (some ⟨b3,o3,none⟩) 1 tc4)∧w16.cell? ⟨w10.heap.size,2,none⟩=some (.int .i64 0)∧w16.cell? ⟨w10.heap.size,3,none⟩=some (.slice T10 0 tc10)∧w16.cell? ⟨b1,o1,none⟩=some (.string ⟨#[58,109,101,116,104,111,100]⟩)∧w16.cell? ⟨b1,o1+1,none⟩=some (.string ⟨#[80,79,83,84]⟩)∧w16.cell? ⟨b2,o2,none⟩=some (.string ⟨#[97]⟩)∧w16.cell? ⟨b2,o2+1,none⟩=some (.string ⟨#[49]⟩)∧w16.cell? ⟨b3,o3,none⟩=some (.string ⟨#[97]⟩)∧w16.cell? ⟨b3,o3+1,none⟩=some (.string ⟨#[49]⟩)):=Lib.hid ⟨ua0,ua1,ua2,ua3,ub0,ub1,ub2,ub3,uc2,uc3,d1,d2,d3,d4,d5,d6⟩;have S16a:Hid (∀ob:Obj,(w16.alloc ob).cell? ⟨w2.heap.size,0,none⟩=some (.slice (some ⟨b1,o1,none⟩) 1 cl2)∧(w16.alloc ob).cell? ⟨w2.heap.size,1,none⟩=some (.bool false)∧(w16.alloc ob).cell? ⟨w2.heap.size,2,none⟩=some (.int .i64 100)∧(w16.alloc ob).cell? ⟨w2.heap.size,3,none⟩=some (.slice T2 0 tc2)∧(w16.alloc ob).cell? ⟨w4.heap.size,0,none⟩=some (.slice (some ⟨b2,o2,none⟩) 1 cl4)∧(w16.alloc ob).cell? ⟨w4.heap.size,1,none⟩=some (.bool false)∧(w16.alloc ob).cell? ⟨w4.heap.size,2,none⟩=some (.int .i64 100)∧(w16.alloc ob).cell? ⟨w4.heap.size,3,none⟩=some (.slice (some ⟨b3,o3,none⟩) 1 tc4)∧(w16.alloc ob).cell? ⟨w10.heap.size,2,none⟩=some (.int .i64 0)∧(w16.alloc ob).cell? ⟨w10.heap.size,3,none⟩=some (.slice T10 0 tc10)∧(w16.alloc ob).cell? ⟨b1,o1,none⟩=some (.string ⟨#[58,109,101,116,104,111,100]⟩)∧(w16.alloc ob).cell? ⟨b1,o1+1,none⟩=some (.string ⟨#[80,79,83,84]⟩)∧(w16.alloc ob).cell? ⟨b2,o2,none⟩=some (.string ⟨#[97]⟩)∧(w16.alloc ob).cell? ⟨b2,o2+1,none⟩=some (.string ⟨#[49]⟩)∧(w16.alloc ob).cell? ⟨b3,o3,none⟩=some (.string ⟨#[97]⟩)∧(w16.alloc ob).cell? ⟨b3,o3+1,none⟩=some (.string ⟨#[49]⟩)):=Lib.hid (fun ob=>⟨kept_al ua0,kept_al ua1,kept_al ua2,kept_al ua3,kept_al ub0,kept_al ub1,kept_al ub2,kept_al ub3,kept_al uc2,kept_al uc3,kept_al d1,kept_al d2,kept_al d3,kept_al d4,kept_al d5,kept_al d6⟩))
 refine hK.out _ _ ?_ (fun h2=>?_)
 ·(try dsimp only)
  (first
   | exact S20.out
   | exact S19.out
   | exact S18.out
   | exact S17.out
   | exact S16a.out _
   | exact S16.out
   | exact S15a.out _
   | exact S15.out)
 clear hK K h1
 try simp only[Act.put,List.setIfInBounds_toArray,List.set_cons_zero,List.set_cons_succ]
 refine oneD (i:=71) (v:=?_) rfl (by as_aux_lemma=>kernel_rfl) (Or.inl ⟨by rfl,?_⟩) h2 ?_
 rotate_left
 ·intro w hSw;(try dsimp only at hSw);go_simp<;>with_reducible rfl
 try simp only[Act.put,List.setIfInBounds_toArray,List.set_cons_zero,List.set_cons_succ]
 refine oneD (i:=72) (v:=?_) rfl (by as_aux_lemma=>kernel_rfl) (Or.inl ⟨by rfl,?_⟩) h2 ?_
 rotate_left
 ·intro w hSw;(try dsimp only at hSw);go_simp<;>with_reducible rfl
 try simp only[Act.put,List.setIfInBounds_toArray,List.set_cons_zero,List.set_cons_succ]
 refine oneD (i:=73) (v:=?_) rfl (by as_aux_lemma=>kernel_rfl) (Or.inl ⟨by rfl,?_⟩) h2 ?_
 rotate_left
 ·intro w hSw;(try dsimp only at hSw);go_simp<;>with_reducible rfl
 try simp only[Act.put,List.setIfInBounds_toArray,List.set_cons_zero,List.set_cons_succ]
 refine oneD (i:=74) (v:=?_) rfl (by as_aux_lemma=>kernel_rfl) (Or.inl ⟨by rfl,?_⟩) h2 ?_
 rotate_left
 ·intro w hSw;(try dsimp only at hSw);go_simp<;>with_reducible rfl
 try simp only[Act.put,List.setIfInBounds_toArray,List.set_cons_zero,List.set_cons_succ]
 refine oneD (i:=75) (v:=?_) rfl (by as_aux_lemma=>kernel_rfl) (Or.inl ⟨by rfl,?_⟩) h2 ?_
 rotate_left
 ·intro w hSw;(try dsimp only at hSw);go_simp<;>with_reducible rfl
 try simp only[Act.put,List.setIfInBounds_toArray,List.set_cons_zero,List.set_cons_succ]
 refine oneD (i:=76) (v:=?_) rfl (by as_aux_lemma=>kernel_rfl) (Or.inl ⟨by rfl,?_⟩) h2 ?_
 rotate_left
 ·intro w hSw;(try dsimp only at hSw);go_simp<;>with_reducible rfl
 try simp only[Act.put,List.setIfInBounds_toArray,List.set_cons_zero,List.set_cons_succ]
 refine takeD (i:=77) (v:=?_) rfl (by as_aux_lemma=>kernel_rfl) (by as_aux_lemma=>kernel_rfl) (by as_aux_lemma=>kernel_rfl) (fun _ _ _ h=>h) (Or.inl ⟨by rfl,?_⟩) h2 ?_
 rotate_left
 ·intro w hSw;(try dsimp only at hSw);go_simp<;>with_reducible rfl
 try simp only[Act.put,List.setIfInBounds_toArray,List.set_cons_zero,List.set_cons_succ]
 refine readyD (i:=78) rfl (by as_aux_lemma=>kernel_rfl) (fun K hK=>?_)
 go_simp
 refine hK.out _ _ ?_ (fun h3=>?_)
 ·(try dsimp only)
  (first
   | exact S20.out
   | exact S19.out
   | exact S18.out
   | exact S17.out
   | exact S16a.out _
   | exact S16.out
   | exact S15a.out _
   | exact S15.out)
 clear hK K h2
 try simp only[Act.put,List.setIfInBounds_toArray,List.set_cons_zero,List.set_cons_succ]
 refine readyD (i:=79) rfl (by as_aux_lemma=>kernel_rfl) (fun K hK=>?_)
 go_simp
 (go_at_call 17;(with_reducible refine(z_same _ [31,6,1,50] #[.int .u8 31,.int .u8 6,.int .u8 1,.int .u8 50] rfl 4 rfl (K16.out.bs (A:=Ay) (n:=4) (xs:=[31,6,1,50]) (by simp))).mono ?_);rintro e w17 ⟨rfl,hb⟩;have K17:=Lib.hid (K16.out.on hb);have G17:Hid (Below w.heap.size w w17):=Lib.hid (below_step G16.out hb);clear hb K16 G16 ua0 ua1 ua2 ua3 ub0 ub1 ub2 ub3 uc0 uc1 uc2 uc3 ula ulb ulc d1 d2 d3 d4 d5 d6;obtain⟨ua0,ua1,ua2,ua3⟩:=cells4_row (K17.out.row 5 rfl);have ula:=K17.out.lt (List.mem_of_getElem? (i:=5) rfl);simp only at ula;obtain⟨ub0,ub1,ub2,ub3⟩:=cells4_row (K17.out.row 4 rfl);have ulb:=K17.out.lt (List.mem_of_getElem? (i:=4) rfl);simp only at ulb;obtain⟨uc0,uc1,uc2,uc3⟩:=cells4_row (K17.out.row 1 rfl);have ulc:=K17.out.lt (List.mem_of_getElem? (i:=1) rfl);simp only at ulc;obtain⟨d1,d2⟩:=fs_at (K17.out.fs (A:=some ⟨b1,o1,none⟩) (n:=1) (xs:=[gpost]) (by simp));obtain⟨d5,d6⟩:=fs_at (K17.out.fs (A:=some ⟨b3,o3,none⟩) (n:=1) (xs:=[ga]) (by simp));obtain⟨d3,d4⟩:=fs_at (K17.out.fs (A:=some ⟨b2,o2,none⟩) (n:=1) (xs:=[ga]) (by simp));have S17:Hid (w17.cell? ⟨w2.heap.size,0,none⟩=some (.slice (some ⟨b1,o1,none⟩) 1 cl2)∧w17.cell? ⟨w2.heap.size,1,none⟩=some (.bool false)∧w17.cell? ⟨w2.heap.size,2,none⟩=some (.int .i64 100)∧w17.cell? ⟨w2.heap.size,3,none⟩=some (.slice T2 0 tc2)∧w17.cell? ⟨w4.heap.size,0,none⟩=some (.slice (some ⟨b2,o2,none⟩) 1 cl4)∧w17.cell? ⟨w4.heap.size,1,none⟩=some (.bool false)∧w17.cell? ⟨w4.heap.size,2,none⟩=some (.int .i64 100)∧w17.cell? ⟨w4.heap.size,3,none⟩=some (.slice (some ⟨b3,o3,none⟩) 1 tc4)∧w17.cell? ⟨w10.heap.size,2,none⟩=some (.int .i64 0)∧w17.cell? ⟨w10.heap.size,3,none⟩=some (.slice T10 0 tc10)∧w17.cell? ⟨b1,o1,none⟩=some (.string ⟨#[58,109,101,116,104,111,100]⟩)∧w17.cell? ⟨b1,o1+1,none⟩=some (.string ⟨#[80,79,83,84]⟩)∧w17.cell? ⟨b2,o2,none⟩=some (.string ⟨#[97]⟩)∧w17.cell? ⟨b2,o2+1,none⟩=some (.string ⟨#[49]⟩)∧w17.cell? ⟨b3,o3,none⟩=some (.string ⟨#[97]⟩)∧w17.cell? ⟨b3,o3+1,none⟩=some (.string ⟨#[49]⟩)):=Lib.hid ⟨ua0,ua1,ua2,ua3,ub0,ub1,ub2,ub3,uc2,uc3,d1,d2,d3,d4,d5,d6⟩;have S17a:Hid (∀ob:Obj,(w17.alloc ob).cell? ⟨w2.heap.size,0,none⟩=some (.slice (some ⟨b1,o1,none⟩) 1 cl2)∧(w17.alloc ob).cell? ⟨w2.heap.size,1,none⟩=some (.bool false)∧(w17.alloc ob).cell? ⟨w2.heap.size,2,none⟩=some (.int .i64 100)∧(w17.alloc ob).cell? ⟨w2.heap.size,3,none⟩=some (.slice T2 0 tc2)∧(w17.alloc ob).cell? ⟨w4.heap.size,0,none⟩=some (.slice (some ⟨b2,o2,none⟩) 1 cl4)∧(w17.alloc ob).cell? ⟨w4.heap.size,1,none⟩=some (.bool false)∧(w17.alloc ob).cell? ⟨w4.heap.size,2,none⟩=some (.int .i64 100)∧(w17.alloc ob).cell? ⟨w4.heap.size,3,none⟩=some (.slice (some ⟨b3,o3,none⟩) 1 tc4)∧(w17.alloc ob).cell? ⟨w10.heap.size,2,none⟩=some (.int .i64 0)∧(w17.alloc ob).cell? ⟨w10.heap.size,3,none⟩=some (.slice T10 0 tc10)∧(w17.alloc ob).cell? ⟨b1,o1,none⟩=some (.string ⟨#[58,109,101,116,104,111,100]⟩)∧(w17.alloc ob).cell? ⟨b1,o1+1,none⟩=some (.string ⟨#[80,79,83,84]⟩)∧(w17.alloc ob).cell? ⟨b2,o2,none⟩=some (.string ⟨#[97]⟩)∧(w17.alloc ob).cell? ⟨b2,o2+1,none⟩=some (.string ⟨#[49]⟩)∧(w17.alloc ob).cell? ⟨b3,o3,none⟩=some (.string ⟨#[97]⟩)∧(w17.alloc ob).cell? ⟨b3,o3+1,none⟩=some (.string ⟨#[49]⟩)):=Lib.hid (fun ob=>⟨kept_al ua0,kept_al ua1,kept_al ua2,kept_al ua3,kept_al ub0,kept_al ub1,kept_al ub2,kept_al ub3,kept_al uc2,kept_al uc3,kept_al d1,kept_al d2,kept_al d3,kept_al d4,kept_al d5,kept_al d6⟩))
 refine hK.out _ _ ?_ (fun h4=>?_)
 ·(try dsimp only)
  (first
   | exact S20.out
   | exact S19.out
   | exact S18.out
   | exact S17.out
   | exact S16a.out _
   | exact S16.out
   | exact S15a.out _
   | exact S15.out)
 clear hK K h3
 try simp only[Act.put,List.setIfInBounds_toArray,List.set_cons_zero,List.set_cons_succ]
 refine oneD (i:=80) (v:=?_) rfl (by as_aux_lemma=>kernel_rfl) (Or.inl ⟨by rfl,?_⟩) h4 ?_
 rotate_left
 ·intro w hSw;(try dsimp only at hSw);go_simp<;>with_reducible rfl
 try simp only[Act.put,List.setIfInBounds_toArray,List.set_cons_zero,List.set_cons_succ]
 refine oneD (i:=81) (v:=?_) rfl (by as_aux_lemma=>kernel_rfl) (Or.inl ⟨by rfl,?_⟩) h4 ?_
 rotate_left
 ·intro w hSw;(try dsimp only at hSw);go_simp<;>with_reducible rfl
 try simp only[Act.put,List.setIfInBounds_toArray,List.set_cons_zero,List.set_cons_succ]
 refine oneD (i:=82) (v:=?_) rfl (by as_aux_lemma=>kernel_rfl) (Or.inl ⟨by rfl,?_⟩) h4 ?_
 rotate_left
 ·intro w hSw;(try dsimp only at hSw);go_simp<;>with_reducible rfl
 try simp only[Act.put,List.setIfInBounds_toArray,List.set_cons_zero,List.set_cons_succ]
 refine oneD (i:=83) (v:=?_) rfl (by as_aux_lemma=>kernel_rfl) (Or.inl ⟨by rfl,?_⟩) h4 ?_
 rotate_left
 ·intro w hSw;(try dsimp only at hSw);go_simp<;>with_reducible rfl
 try simp only[Act.put,List.setIfInBounds_toArray,List.set_cons_zero,List.set_cons_succ]
 refine readyD (i:=84) rfl (by as_aux_lemma=>kernel_rfl) (fun K hK=>?_)
 go_simp
 (go_at_call 20;(with_reducible refine(z_size _ (K17.out.fs (A:=some ⟨b2,o2,none⟩) (n:=1) (xs:=[ga]) (by simp))).mono ?_);rintro e w18 ⟨rfl,hb⟩;have K18:=Lib.hid (K17.out.on hb);have G18:Hid (Below w.heap.size w w18):=Lib.hid (below_step G17.out hb);clear hb K17 G17 ua0 ua1 ua2 ua3 ub0 ub1 ub2 ub3 uc0 uc1 uc2 uc3 ula ulb ulc d1 d2 d3 d4 d5 d6;obtain⟨ua0,ua1,ua2,ua3⟩:=cells4_row (K18.out.row 5 rfl);have ula:=K18.out.lt (List.mem_of_getElem? (i:=5) rfl);simp only at ula;obtain⟨ub0,ub1,ub2,ub3⟩:=cells4_row (K18.out.row 4 rfl);have ulb:=K18.out.lt (List.mem_of_getElem? (i:=4) rfl);simp only at ulb;obtain⟨uc0,uc1,uc2,uc3⟩:=cells4_row (K18.out.row 1 rfl);have ulc:=K18.out.lt (List.mem_of_getElem? (i:=1) rfl);simp only at ulc;obtain⟨d1,d2⟩:=fs_at (K18.out.fs (A:=some ⟨b1,o1,none⟩) (n:=1) (xs:=[gpost]) (by simp));obtain⟨d5,d6⟩:=fs_at (K18.out.fs (A:=some ⟨b3,o3,none⟩) (n:=1) (xs:=[ga]) (by simp));obtain⟨d3,d4⟩:=fs_at (K18.out.fs (A:=some ⟨b2,o2,none⟩) (n:=1) (xs:=[ga]) (by simp));have S18:Hid (w18.cell? ⟨w2.heap.size,0,none⟩=some (.slice (some ⟨b1,o1,none⟩) 1 cl2)∧w18.cell? ⟨w2.heap.size,1,none⟩=some (.bool false)∧w18.cell? ⟨w2.heap.size,2,none⟩=some (.int .i64 100)∧w18.cell? ⟨w2.heap.size,3,none⟩=some (.slice T2 0 tc2)∧w18.cell? ⟨w4.heap.size,0,none⟩=some (.slice (some ⟨b2,o2,none⟩) 1 cl4)∧w18.cell? ⟨w4.heap.size,1,none⟩=some (.bool false)∧w18.cell? ⟨w4.heap.size,2,none⟩=some (.int .i64 100)∧w18.cell? ⟨w4.heap.size,3,none⟩=some (.slice (some ⟨b3,o3,none⟩) 1 tc4)∧w18.cell? ⟨w10.heap.size,2,none⟩=some (.int .i64 0)∧w18.cell? ⟨w10.heap.size,3,none⟩=some (.slice T10 0 tc10)∧w18.cell? ⟨b1,o1,none⟩=some (.string ⟨#[58,109,101,116,104,111,100]⟩)∧w18.cell? ⟨b1,o1+1,none⟩=some (.string ⟨#[80,79,83,84]⟩)∧w18.cell? ⟨b2,o2,none⟩=some (.string ⟨#[97]⟩)∧w18.cell? ⟨b2,o2+1,none⟩=some (.string ⟨#[49]⟩)∧w18.cell? ⟨b3,o3,none⟩=some (.string ⟨#[97]⟩)∧w18.cell? ⟨b3,o3+1,none⟩=some (.string ⟨#[49]⟩)):=Lib.hid ⟨ua0,ua1,ua2,ua3,ub0,ub1,ub2,ub3,uc2,uc3,d1,d2,d3,d4,d5,d6⟩;have S18a:Hid (∀ob:Obj,(w18.alloc ob).cell? ⟨w2.heap.size,0,none⟩=some (.slice (some ⟨b1,o1,none⟩) 1 cl2)∧(w18.alloc ob).cell? ⟨w2.heap.size,1,none⟩=some (.bool false)∧(w18.alloc ob).cell? ⟨w2.heap.size,2,none⟩=some (.int .i64 100)∧(w18.alloc ob).cell? ⟨w2.heap.size,3,none⟩=some (.slice T2 0 tc2)∧(w18.alloc ob).cell? ⟨w4.heap.size,0,none⟩=some (.slice (some ⟨b2,o2,none⟩) 1 cl4)∧(w18.alloc ob).cell? ⟨w4.heap.size,1,none⟩=some (.bool false)∧(w18.alloc ob).cell? ⟨w4.heap.size,2,none⟩=some (.int .i64 100)∧(w18.alloc ob).cell? ⟨w4.heap.size,3,none⟩=some (.slice (some ⟨b3,o3,none⟩) 1 tc4)∧(w18.alloc ob).cell? ⟨w10.heap.size,2,none⟩=some (.int .i64 0)∧(w18.alloc ob).cell? ⟨w10.heap.size,3,none⟩=some (.slice T10 0 tc10)∧(w18.alloc ob).cell? ⟨b1,o1,none⟩=some (.string ⟨#[58,109,101,116,104,111,100]⟩)∧(w18.alloc ob).cell? ⟨b1,o1+1,none⟩=some (.string ⟨#[80,79,83,84]⟩)∧(w18.alloc ob).cell? ⟨b2,o2,none⟩=some (.string ⟨#[97]⟩)∧(w18.alloc ob).cell? ⟨b2,o2+1,none⟩=some (.string ⟨#[49]⟩)∧(w18.alloc ob).cell? ⟨b3,o3,none⟩=some (.string ⟨#[97]⟩)∧(w18.alloc ob).cell? ⟨b3,o3+1,none⟩=some (.string ⟨#[49]⟩)):=Lib.hid (fun ob=>⟨kept_al ua0,kept_al ua1,kept_al ua2,kept_al ua3,kept_al ub0,kept_al ub1,kept_al ub2,kept_al ub3,kept_al uc2,kept_al uc3,kept_al d1,kept_al d2,kept_al d3,kept_al d4,kept_al d5,kept_al d6⟩))
 refine hK.out _ _ ?_ (fun h5=>?_)
 ·(try dsimp only)
  (first
   | exact S20.out
   | exact S19.out
   | exact S18.out
   | exact S17.out
   | exact S16a.out _
   | exact S16.out
   | exact S15a.out _
   | exact S15.out)
 clear hK K h4
 try simp only[Act.put,List.setIfInBounds_toArray,List.set_cons_zero,List.set_cons_succ]
 refine oneD (i:=85) (v:=?_) rfl (by as_aux_lemma=>kernel_rfl) (Or.inl ⟨by rfl,?_⟩) h5 ?_
 rotate_left
 ·intro w hSw;(try dsimp only at hSw);go_simp<;>with_reducible rfl
 try simp only[Act.put,List.setIfInBounds_toArray,List.set_cons_zero,List.set_cons_succ]
 refine oneD (i:=86) (v:=?_) rfl (by as_aux_lemma=>kernel_rfl) (Or.inl ⟨by rfl,?_⟩) h5 ?_
 rotate_left
 ·intro w hSw;(try dsimp only at hSw);go_simp<;>with_reducible rfl
 try simp only[Act.put,List.setIfInBounds_toArray,List.set_cons_zero,List.set_cons_succ]
 refine oneD (i:=87) (v:=?_) rfl (by as_aux_lemma=>kernel_rfl) (Or.inl ⟨by rfl,?_⟩) h5 ?_
 rotate_left
 ·intro w hSw;(try dsimp only at hSw);go_simp<;>with_reducible rfl
 try simp only[Act.put,List.setIfInBounds_toArray,List.set_cons_zero,List.set_cons_succ]
 refine takeD (i:=88) (v:=?_) rfl (by as_aux_lemma=>kernel_rfl) (by as_aux_lemma=>kernel_rfl) (by as_aux_lemma=>kernel_rfl) (fun _ _ _ h=>h) (Or.inl ⟨by rfl,?_⟩) h5 ?_
 rotate_left
 ·intro w hSw;(try dsimp only at hSw);go_simp<;>with_reducible rfl
 try simp only[Act.put,List.setIfInBounds_toArray,List.set_cons_zero,List.set_cons_succ]
 refine oneD (i:=89) (v:=?_) rfl (by as_aux_lemma=>kernel_rfl) (Or.inl ⟨by rfl,?_⟩) h5 ?_
 rotate_left
 ·intro w hSw;(try dsimp only at hSw);go_simp<;>with_reducible rfl
 try simp only[Act.put,List.setIfInBounds_toArray,List.set_cons_zero,List.set_cons_succ]
 refine readyD (i:=90) rfl (by as_aux_lemma=>kernel_rfl) (fun K hK=>?_)
 go_simp
 (go_at_call 22;(with_reducible refine(z_sam _ (K18.out.fs (A:=some ⟨b1,o1,none⟩) (n:=1) (xs:=[gpost]) (by simp)) (K18.out.fs (A:=some ⟨b1,o1,none⟩) (n:=1) (xs:=[gpost]) (by simp)) (K18.out.fs (A:=T2) (n:=0) (xs:=[]) (by simp)) (K18.out.fs (A:=T2) (n:=0) (xs:=[]) (by simp)) (by omega) (by omega) z_s.1).mono ?_);rintro e w19 ⟨rfl,hb⟩;have K19:=Lib.hid (K18.out.on hb);have G19:Hid (Below w.heap.size w w19):=Lib.hid (below_step G18.out hb);clear hb K18 G18 ua0 ua1 ua2 ua3 ub0 ub1 ub2 ub3 uc0 uc1 uc2 uc3 ula ulb ulc d1 d2 d3 d4 d5 d6;obtain⟨ua0,ua1,ua2,ua3⟩:=cells4_row (K19.out.row 5 rfl);have ula:=K19.out.lt (List.mem_of_getElem? (i:=5) rfl);simp only at ula;obtain⟨ub0,ub1,ub2,ub3⟩:=cells4_row (K19.out.row 4 rfl);have ulb:=K19.out.lt (List.mem_of_getElem? (i:=4) rfl);simp only at ulb;obtain⟨uc0,uc1,uc2,uc3⟩:=cells4_row (K19.out.row 1 rfl);have ulc:=K19.out.lt (List.mem_of_getElem? (i:=1) rfl);simp only at ulc;obtain⟨d1,d2⟩:=fs_at (K19.out.fs (A:=some ⟨b1,o1,none⟩) (n:=1) (xs:=[gpost]) (by simp));obtain⟨d5,d6⟩:=fs_at (K19.out.fs (A:=some ⟨b3,o3,none⟩) (n:=1) (xs:=[ga]) (by simp));obtain⟨d3,d4⟩:=fs_at (K19.out.fs (A:=some ⟨b2,o2,none⟩) (n:=1) (xs:=[ga]) (by simp));have S19:Hid (w19.cell? ⟨w2.heap.size,0,none⟩=some (.slice (some ⟨b1,o1,none⟩) 1 cl2)∧w19.cell? ⟨w2.heap.size,1,none⟩=some (.bool false)∧w19.cell? ⟨w2.heap.size,2,none⟩=some (.int .i64 100)∧w19.cell? ⟨w2.heap.size,3,none⟩=some (.slice T2 0 tc2)∧w19.cell? ⟨w4.heap.size,0,none⟩=some (.slice (some ⟨b2,o2,none⟩) 1 cl4)∧w19.cell? ⟨w4.heap.size,1,none⟩=some (.bool false)∧w19.cell? ⟨w4.heap.size,2,none⟩=some (.int .i64 100)∧w19.cell? ⟨w4.heap.size,3,none⟩=some (.slice (some ⟨b3,o3,none⟩) 1 tc4)∧w19.cell? ⟨w10.heap.size,2,none⟩=some (.int .i64 0)∧w19.cell? ⟨w10.heap.size,3,none⟩=some (.slice T10 0 tc10)∧w19.cell? ⟨b1,o1,none⟩=some (.string ⟨#[58,109,101,116,104,111,100]⟩)∧w19.cell? ⟨b1,o1+1,none⟩=some (.string ⟨#[80,79,83,84]⟩)∧w19.cell? ⟨b2,o2,none⟩=some (.string ⟨#[97]⟩)∧w19.cell? ⟨b2,o2+1,none⟩=some (.string ⟨#[49]⟩)∧w19.cell? ⟨b3,o3,none⟩=some (.string ⟨#[97]⟩)∧w19.cell? ⟨b3,o3+1,none⟩=some (.string ⟨#[49]⟩)):=Lib.hid ⟨ua0,ua1,ua2,ua3,ub0,ub1,ub2,ub3,uc2,uc3,d1,d2,d3,d4,d5,d6⟩;have S19a:Hid (∀ob:Obj,(w19.alloc ob).cell? ⟨w2.heap.size,0,none⟩=some (.slice (some ⟨b1,o1,none⟩) 1 cl2)∧(w19.alloc ob).cell? ⟨w2.heap.size,1,none⟩=some (.bool false)∧(w19.alloc ob).cell? ⟨w2.heap.size,2,none⟩=some (.int .i64 100)∧(w19.alloc ob).cell? ⟨w2.heap.size,3,none⟩=some (.slice T2 0 tc2)∧(w19.alloc ob).cell? ⟨w4.heap.size,0,none⟩=some (.slice (some ⟨b2,o2,none⟩) 1 cl4)∧(w19.alloc ob).cell? ⟨w4.heap.size,1,none⟩=some (.bool false)∧(w19.alloc ob).cell? ⟨w4.heap.size,2,none⟩=some (.int .i64 100)∧(w19.alloc ob).cell? ⟨w4.heap.size,3,none⟩=some (.slice (some ⟨b3,o3,none⟩) 1 tc4)∧(w19.alloc ob).cell? ⟨w10.heap.size,2,none⟩=some (.int .i64 0)∧(w19.alloc ob).cell? ⟨w10.heap.size,3,none⟩=some (.slice T10 0 tc10)∧(w19.alloc ob).cell? ⟨b1,o1,none⟩=some (.string ⟨#[58,109,101,116,104,111,100]⟩)∧(w19.alloc ob).cell? ⟨b1,o1+1,none⟩=some (.string ⟨#[80,79,83,84]⟩)∧(w19.alloc ob).cell? ⟨b2,o2,none⟩=some (.string ⟨#[97]⟩)∧(w19.alloc ob).cell? ⟨b2,o2+1,none⟩=some (.string ⟨#[49]⟩)∧(w19.alloc ob).cell? ⟨b3,o3,none⟩=some (.string ⟨#[97]⟩)∧(w19.alloc ob).cell? ⟨b3,o3+1,none⟩=some (.string ⟨#[49]⟩)):=Lib.hid (fun ob=>⟨kept_al ua0,kept_al ua1,kept_al ua2,kept_al ua3,kept_al ub0,kept_al ub1,kept_al ub2,kept_al ub3,kept_al uc2,kept_al uc3,kept_al d1,kept_al d2,kept_al d3,kept_al d4,kept_al d5,kept_al d6⟩))
 refine hK.out _ _ ?_ (fun h6=>?_)
 ·(try dsimp only)
  (first
   | exact S20.out
   | exact S19.out
   | exact S18.out
   | exact S17.out
   | exact S16a.out _
   | exact S16.out
   | exact S15a.out _
   | exact S15.out)
 clear hK K h5
 try simp only[Act.put,List.setIfInBounds_toArray,List.set_cons_zero,List.set_cons_succ]
 refine oneD (i:=91) (v:=?_) rfl (by as_aux_lemma=>kernel_rfl) (Or.inl ⟨by rfl,?_⟩) h6 ?_
 rotate_left
 ·intro w hSw;(try dsimp only at hSw);go_simp<;>with_reducible rfl
 try simp only[Act.put,List.setIfInBounds_toArray,List.set_cons_zero,List.set_cons_succ]
 refine oneD (i:=92) (v:=?_) rfl (by as_aux_lemma=>kernel_rfl) (Or.inl ⟨by rfl,?_⟩) h6 ?_
 rotate_left
 ·intro w hSw;(try dsimp only at hSw);go_simp<;>with_reducible rfl
 try simp only[Act.put,List.setIfInBounds_toArray,List.set_cons_zero,List.set_cons_succ]
 refine takeD (i:=93) (v:=?_) rfl (by as_aux_lemma=>kernel_rfl) (by as_aux_lemma=>kernel_rfl) (by as_aux_lemma=>kernel_rfl) (fun _ _ _ h=>h) (Or.inl ⟨by rfl,?_⟩) h6 ?_
 rotate_left
 ·intro w hSw;(try dsimp only at hSw);go_simp<;>with_reducible rfl
 try simp only[Act.put,List.setIfInBounds_toArray,List.set_cons_zero,List.set_cons_succ]
 refine oneD (i:=94) (v:=?_) rfl (by as_aux_lemma=>kernel_rfl) (Or.inl ⟨by rfl,?_⟩) h6 ?_
 rotate_left
 ·intro w hSw;(try dsimp only at hSw);go_simp<;>with_reducible rfl
 try simp only[Act.put,List.setIfInBounds_toArray,List.set_cons_zero,List.set_cons_succ]
 refine readyD (i:=95) rfl (by as_aux_lemma=>kernel_rfl) (fun K hK=>?_)
 go_simp
 (go_at_call 22;(with_reducible refine(z_sam _ (K19.out.fs (A:=some ⟨b1,o1,none⟩) (n:=1) (xs:=[gpost]) (by simp)) (K19.out.fs (A:=some ⟨b2,o2,none⟩) (n:=1) (xs:=[ga]) (by simp)) (K19.out.fs (A:=T2) (n:=0) (xs:=[]) (by simp)) (K19.out.fs (A:=some ⟨b3,o3,none⟩) (n:=1) (xs:=[ga]) (by simp)) (by omega) (by omega) z_s.2.1).mono ?_);rintro e w20 ⟨rfl,hb⟩;have K20:=Lib.hid (K19.out.on hb);have G20:Hid (Below w.heap.size w w20):=Lib.hid (below_step G19.out hb);clear hb K19 G19 ua0 ua1 ua2 ua3 ub0 ub1 ub2 ub3 uc0 uc1 uc2 uc3 ula ulb ulc d1 d2 d3 d4 d5 d6;obtain⟨ua0,ua1,ua2,ua3⟩:=cells4_row (K20.out.row 5 rfl);have ula:=K20.out.lt (List.mem_of_getElem? (i:=5) rfl);simp only at ula;obtain⟨ub0,ub1,ub2,ub3⟩:=cells4_row (K20.out.row 4 rfl);have ulb:=K20.out.lt (List.mem_of_getElem? (i:=4) rfl);simp only at ulb;obtain⟨uc0,uc1,uc2,uc3⟩:=cells4_row (K20.out.row 1 rfl);have ulc:=K20.out.lt (List.mem_of_getElem? (i:=1) rfl);simp only at ulc;obtain⟨d1,d2⟩:=fs_at (K20.out.fs (A:=some ⟨b1,o1,none⟩) (n:=1) (xs:=[gpost]) (by simp));obtain⟨d5,d6⟩:=fs_at (K20.out.fs (A:=some ⟨b3,o3,none⟩) (n:=1) (xs:=[ga]) (by simp));obtain⟨d3,d4⟩:=fs_at (K20.out.fs (A:=some ⟨b2,o2,none⟩) (n:=1) (xs:=[ga]) (by simp));have S20:Hid (w20.cell? ⟨w2.heap.size,0,none⟩=some (.slice (some ⟨b1,o1,none⟩) 1 cl2)∧w20.cell? ⟨w2.heap.size,1,none⟩=some (.bool false)∧w20.cell? ⟨w2.heap.size,2,none⟩=some (.int .i64 100)∧w20.cell? ⟨w2.heap.size,3,none⟩=some (.slice T2 0 tc2)∧w20.cell? ⟨w4.heap.size,0,none⟩=some (.slice (some ⟨b2,o2,none⟩) 1 cl4)∧w20.cell? ⟨w4.heap.size,1,none⟩=some (.bool false)∧w20.cell? ⟨w4.heap.size,2,none⟩=some (.int .i64 100)∧w20.cell? ⟨w4.heap.size,3,none⟩=some (.slice (some ⟨b3,o3,none⟩) 1 tc4)∧w20.cell? ⟨w10.heap.size,2,none⟩=some (.int .i64 0)∧w20.cell? ⟨w10.heap.size,3,none⟩=some (.slice T10 0 tc10)∧w20.cell? ⟨b1,o1,none⟩=some (.string ⟨#[58,109,101,116,104,111,100]⟩)∧w20.cell? ⟨b1,o1+1,none⟩=some (.string ⟨#[80,79,83,84]⟩)∧w20.cell? ⟨b2,o2,none⟩=some (.string ⟨#[97]⟩)∧w20.cell? ⟨b2,o2+1,none⟩=some (.string ⟨#[49]⟩)∧w20.cell? ⟨b3,o3,none⟩=some (.string ⟨#[97]⟩)∧w20.cell? ⟨b3,o3+1,none⟩=some (.string ⟨#[49]⟩)):=Lib.hid ⟨ua0,ua1,ua2,ua3,ub0,ub1,ub2,ub3,uc2,uc3,d1,d2,d3,d4,d5,d6⟩;have S20a:Hid (∀ob:Obj,(w20.alloc ob).cell? ⟨w2.heap.size,0,none⟩=some (.slice (some ⟨b1,o1,none⟩) 1 cl2)∧(w20.alloc ob).cell? ⟨w2.heap.size,1,none⟩=some (.bool false)∧(w20.alloc ob).cell? ⟨w2.heap.size,2,none⟩=some (.int .i64 100)∧(w20.alloc ob).cell? ⟨w2.heap.size,3,none⟩=some (.slice T2 0 tc2)∧(w20.alloc ob).cell? ⟨w4.heap.size,0,none⟩=some (.slice (some ⟨b2,o2,none⟩) 1 cl4)∧(w20.alloc ob).cell? ⟨w4.heap.size,1,none⟩=some (.bool false)∧(w20.alloc ob).cell? ⟨w4.heap.size,2,none⟩=some (.int .i64 100)∧(w20.alloc ob).cell? ⟨w4.heap.size,3,none⟩=some (.slice (some ⟨b3,o3,none⟩) 1 tc4)∧(w20.alloc ob).cell? ⟨w10.heap.size,2,none⟩=some (.int .i64 0)∧(w20.alloc ob).cell? ⟨w10.heap.size,3,none⟩=some (.slice T10 0 tc10)∧(w20.alloc ob).cell? ⟨b1,o1,none⟩=some (.string ⟨#[58,109,101,116,104,111,100]⟩)∧(w20.alloc ob).cell? ⟨b1,o1+1,none⟩=some (.string ⟨#[80,79,83,84]⟩)∧(w20.alloc ob).cell? ⟨b2,o2,none⟩=some (.string ⟨#[97]⟩)∧(w20.alloc ob).cell? ⟨b2,o2+1,none⟩=some (.string ⟨#[49]⟩)∧(w20.alloc ob).cell? ⟨b3,o3,none⟩=some (.string ⟨#[97]⟩)∧(w20.alloc ob).cell? ⟨b3,o3+1,none⟩=some (.string ⟨#[49]⟩)):=Lib.hid (fun ob=>⟨kept_al ua0,kept_al ua1,kept_al ua2,kept_al ua3,kept_al ub0,kept_al ub1,kept_al ub2,kept_al ub3,kept_al uc2,kept_al uc3,kept_al d1,kept_al d2,kept_al d3,kept_al d4,kept_al d5,kept_al d6⟩))
 refine hK.out _ _ ?_ (fun h7=>?_)
 ·(try dsimp only)
  (first
   | exact S20.out
   | exact S19.out
   | exact S18.out
   | exact S17.out
   | exact S16a.out _
   | exact S16.out
   | exact S15a.out _
   | exact S15.out)
 clear hK K h6
 try simp only[Act.put,List.setIfInBounds_toArray,List.set_cons_zero,List.set_cons_succ]
 refine oneD (i:=96) (v:=?_) rfl (by as_aux_lemma=>kernel_rfl) (Or.inl ⟨by rfl,?_⟩) h7 ?_
 rotate_left
 ·intro w hSw;(try dsimp only at hSw);go_simp<;>with_reducible rfl
 try simp only[Act.put,List.setIfInBounds_toArray,List.set_cons_zero,List.set_cons_succ]
 refine oneD (i:=97) (v:=?_) rfl (by as_aux_lemma=>kernel_rfl) (Or.inl ⟨by rfl,?_⟩) h7 ?_
 rotate_left
 ·intro w hSw;(try dsimp only at hSw);go_simp<;>with_reducible rfl
 try simp only[Act.put,List.setIfInBounds_toArray,List.set_cons_zero,List.set_cons_succ]
 refine oneD (i:=98) (v:=?_) rfl (by as_aux_lemma=>kernel_rfl) (Or.inl ⟨by rfl,?_⟩) h7 ?_
 rotate_left
 ·intro w hSw;(try dsimp only at hSw);go_simp<;>with_reducible rfl
 try simp only[Act.put,List.setIfInBounds_toArray,List.set_cons_zero,List.set_cons_succ]
 refine wpAnyH_done (by as_aux_lemma=>kernel_rfl) ?_ _
 refine NoPanic.normal ?_
 all_goals
  go_wp2
  go_ret
  exact⟨rfl,G20.out⟩
end Go.Proofs.YtahiajeggbpogaaGreatDoor
